/-
  Plain mathematics of a log's file: blocks that are put, and a loss of power.
-/
import Derived.Test.YtipokepnhjlgdaaGreatFr4
import Derived.Test.YtipokepnhjlgdaaGreatMathFr
import Derived.Test.YtipokepnhjlgdaaGreatMathFr2
set_option maxHeartbeats 1000000
set_option maxRecDepth 100000
namespace Go.Proofs.YtipokepnhjlgdaaGreat
open Go.RowKit
set_option linter.unusedVariables false
set_option linter.unusedSimpArgs false
def RdL (w : World) (v : Value) (ls : List (List UInt8)) : Prop :=
 (ls = [] ∧ (v = .slice none 0 0 ∨ ∃ a c, v = .slice (some a) 0 c)) ∨
 ∃ b off c, v = .slice (some ⟨b, off, none⟩) ls.length c ∧ ls.length ≤ c ∧ c ≤ maxLen ∧ ∀ j, (h : j < ls.length) → ∃ y z, w.cell? ⟨b, off + j, none⟩ = some (.slice y (ls[j]).length z) ∧ Rd w (.slice y (ls[j]).length z) ls[j]
theorem RdL.carry {w w' : World} {v : Value} {l : List (List UInt8)} (h : RdL w v l) (hb : Below w.heap.size w w') : RdL w' v l := by
 rcases h with h | ⟨b, off, c, rfl, hc, hm, hcell⟩
 ·exact .inl h
 ·refine .inr ⟨b, off, c, rfl, hc, hm, fun j hj => ?_⟩
  obtain ⟨y, z, h1, h2⟩ := hcell j hj
  exact ⟨y, z, qaa _ _ _ _ h1 hb, h2.carry hb⟩
theorem RdL.at {w : World} {a : Option Addr} {n c : Nat} {l : List (List UInt8)} (h : RdL w (.slice a n c) l) (j : Nat) (hj : j < l.length) : ∃ b off y z, a = some ⟨b, off, none⟩ ∧ w.cell? ⟨b, off + j, none⟩ = some (.slice y (l[j]).length z) ∧ Rd w (.slice y (l[j]).length z) l[j] := by
 rcases h with ⟨rfl, _⟩ | ⟨b, off, c', e, _, _, hc⟩
 ·simp at hj
 ·cases e
  obtain ⟨y, z, h1, h2⟩ := hc j hj
  exact ⟨b, off, y, z, rfl, h1, h2⟩
theorem RdL.le {w : World} {a : Option Addr} {n c : Nat} {l : List (List UInt8)} (h : RdL w (.slice a n c) l) : n = l.length ∧ n ≤ c ∧ n ≤ maxLen := by
 rcases h with ⟨rfl, h | ⟨ad, c', h⟩⟩ | ⟨b, off, c', h, h1, h2, h3⟩
 ·cases h; exact ⟨rfl, Nat.le_refl _, Nat.zero_le _⟩
 ·cases h; exact ⟨rfl, Nat.zero_le _, Nat.zero_le _⟩
 ·cases h; exact ⟨rfl, h1, Nat.le_trans h1 h2⟩
theorem RdL.take {w : World} {a : Option Addr} {n c : Nat} {l : List (List UInt8)} (h : RdL w (.slice a n c) l) (k : Nat) (hk : k ≤ l.length) : RdL w (.slice a k c) (l.take k) := by
 rcases h with ⟨rfl, h | ⟨ad, c', h⟩⟩ | ⟨b, off, c', h, h1, h2, h3⟩
 ·cases h
  obtain rfl : k = 0 := by simpa using hk
  exact .inl ⟨by simp, .inl rfl⟩
 ·cases h
  obtain rfl : k = 0 := by simpa using hk
  exact .inl ⟨by simp, .inr ⟨_, _, rfl⟩⟩
 ·cases h
  have hl : (l.take k).length = k := by rw [List.length_take]; omega
  refine .inr ⟨b, off, c, by rw [hl], by rw [hl]; omega, h2, fun j hj => ?_⟩
  rw [hl] at hj
  obtain ⟨y, z, e1, e2⟩ := h3 j (by omega)
  rw [List.getElem_take]
  exact ⟨y, z, e1, e2⟩
theorem RdL.cut {w : World} {a : Option Addr} {n c : Nat} {l : List (List UInt8)} (h : RdL w (.slice a n c) l) (k : Nat) (hk : k ≤ l.length) : (n ≤ c) ∧ ((c = k ∧ k = n ∧ RdL w (.slice a 0 0) (l.drop k)) ∨ (∃ b off, a = some ⟨b, off, none⟩ ∧ ¬ c = k ∧ RdL w (.slice (some ⟨b, off + k, none⟩) (n - k) (c - k)) (l.drop k)) ∨ (∃ ad, a = some ad ∧ n = 0 ∧ k = 0 ∧ ¬ c = k ∧ l = [])) := by
 obtain ⟨hn, hnc, _⟩ := h.le
 subst hn
 refine ⟨hnc, ?_⟩
 rcases h with ⟨rfl, h | ⟨ad, c', h⟩⟩ | ⟨b, off, c', h, h1, h2, h3⟩
 ·cases h
  obtain rfl : k = 0 := by simpa using hk
  exact .inl ⟨rfl, rfl, .inl ⟨rfl, .inl rfl⟩⟩
 ·cases h
  obtain rfl : k = 0 := by simpa using hk
  by_cases hc : c = 0
  ·exact .inl ⟨hc, rfl, .inl ⟨rfl, .inr ⟨_, _, rfl⟩⟩⟩
  ·exact .inr (.inr ⟨_, rfl, rfl, rfl, hc, rfl⟩)
 ·cases h
  by_cases hc : c = k
  ·obtain rfl : k = l.length := by omega
   exact .inl ⟨hc, rfl, .inl ⟨by rw [List.drop_length], .inr ⟨_, _, rfl⟩⟩⟩
  ·refine .inr (.inl ⟨b, off, rfl, hc, ?_⟩)
   by_cases hkl : k = l.length
   ·subst hkl
    rw [List.drop_length, Nat.sub_self]
    exact .inl ⟨rfl, .inr ⟨_, _, rfl⟩⟩
   ·refine .inr ⟨b, off + k, c - k, by rw [List.length_drop], by rw [List.length_drop]; omega, by omega, fun j hj => ?_⟩
    rw [List.length_drop] at hj
    obtain ⟨y, z, e1, e2⟩ := h3 (k + j) (by omega)
    rw [Nat.add_assoc, List.getElem_drop]
    exact ⟨y, z, e1, e2⟩
theorem OwBB.rdL {w : World} {base : Nat} {v : Value} {ls : List (List UInt8)} (h : OwBB w base v ls) : RdL w v ls := by
 obtain ⟨a, c, rfl⟩ := h.form
 obtain ⟨ps, e, h1, h2⟩ := h
 have h0 : OwBB w base (.slice a ls.length c) ls := ⟨ps, e, h1, h2⟩
 rcases h1.2 with ⟨e, hn⟩ | ⟨g, cap, cur, e, _, hg, hn, hm, hsz, htake⟩
 ·have : ls = [] := List.length_eq_zero_iff.1 hn
  subst this
  cases e
  exact .inl ⟨rfl, .inl rfl⟩
 ·cases e
  refine .inr ⟨g, 0, c, rfl, hn, hm, fun j hj => ?_⟩
  obtain ⟨g', y, z, e, hc, ho⟩ := h0.at j hj
  cases e
  exact ⟨y, z, by simpa using hc, ho.rd⟩
def okL (l : List (List UInt8)) : Bool := l.all fun b => decide (b.length = 128)
theorem qsu (l : List (List UInt8)) : okL l = true ↔ ∀ b ∈ l, b.length = 128 := by simp [okL, List.all_eq_true]
def chkL (l : List (List UInt8)) : Int := if 4096 < l.length then 4 else if okL l then 0 else 3
theorem qot {l : List (List UInt8)} (h : chkL l = 0) : l.length ≤ 4096 ∧ ∀ b ∈ l, b.length = 128 := by
 unfold chkL at h
 split at h
 ·cases h
 ·rename_i h1
  split at h
  ·rename_i h2; exact ⟨by omega, (qsu l).1 h2⟩
  ·cases h
theorem qsv {l : List (List UInt8)} (h : l.length ≤ 4096) (h2 : ∀ b ∈ l, b.length = 128) : chkL l = 0 := by
 unfold chkL; rw [if_neg (by omega), if_pos ((qsu l).2 h2)]
theorem qou (l : List (List UInt8)) (k : Nat) (hk : k < l.length) : okL (l.take (k + 1)) = (okL (l.take k) && decide ((l[k]).length = 128)) := by
 unfold okL; rw [List.take_succ_eq_append_getElem hk]; simp only [List.all_append, List.all_cons, List.all_nil, Bool.and_true]
theorem qakp {l : List (List UInt8)} {k : Nat} (hk : k < l.length) (h : (l[k]).length ≠ 128) : okL l = false := by
 cases e : okL l
 ·rfl
 ·exact absurd ((qsu l).1 e _ (List.getElem_mem hk)) h
theorem qke (a : Option Addr) (n c : Nat) (l : List (List UInt8)) (w : World) (hrd : RdL w (.slice a n c) l) :
  Calls Tryz.prog 78 #[.slice a n c] w fun e w' => e = .returned (.int .i64 (chkL l)) ∧ w' = w := by
 have HN := hide hrd.le.1
 have HR := hide hrd
 clear hrd
 by_cases h4 : 4096 < n
 ·have h4' : (4096 : Int) < n := by omega
  have HE := hide (show chkL l = 4 by unfold chkL; rw [if_pos (by rw [← HN.out]; exact h4)])
  go_enter Tryz.func78, Tryz.ntmps78
  go_wp2
  go_ret
  rw [HE.out]
  exact ⟨rfl, rfl⟩
 ·have h4' : decide ((4096 : Int) < n) = false := by simpa using (by omega : ¬ (4096 : Int) < n)
  have HE := hide (show chkL l = if okL l then 0 else 3 by unfold chkL; rw [if_neg (by rw [← HN.out]; exact h4)])
  have hn4 : n ≤ 4096 := by omega
  clear h4
  go_enter Tryz.func78, Tryz.ntmps78
  go_wp2
  clear h4'
  go_loop [10] (fun i => ∃ k : Nat, k ≤ n ∧ i = .int .i64 k ∧ Hid (okL (l.take k) = true)) (fun i => n - (intOf i).toNat)
  case atStart => exact ⟨0, Nat.zero_le _, rfl, hide (by simp [okL])⟩
  case round =>
   obtain ⟨k, hk, rfl, hok⟩ := hrel
   by_cases hlt : k < n
   ·have hlt' : (k : Int) < n := by omega
    have hkl : k < l.length := by have := HN.out; omega
    obtain ⟨b, off, y, z, rfl, q0, q1⟩ := HR.out.at k hkl
    clear q1
    obtain ⟨m, hm⟩ : ∃ m, m = (l[k]).length := ⟨_, rfl⟩
    rw [← hm] at q0
    have HM := hide hm
    clear hm
    by_cases h1 : m = 128
    ·have HT := hide (show okL (l.take (k + 1)) = true by rw [qou _ _ hkl, hok.out, ← HM.out, h1]; rfl)
     subst h1
     go_wp2
     go_round
     case rel => exact ⟨k + 1, by omega, rfl, HT⟩
     case measure => simp only [intOf]; omega
    ·have h1' : ((m : Int) != 128) = true := by simpa using (by omega : ¬ (m : Int) = 128)
     have HX := hide (qakp hkl (by rw [← HM.out]; exact h1))
     clear h1
     go_wp2
     go_ret
     rw [HE.out, HX.out]
     exact ⟨rfl, rfl⟩
   ·have hd : decide ((k : Int) < n) = false := by simpa using (by omega : ¬ (k : Int) < n)
    have HX := hide (show okL l = true by have := hok.out; rwa [List.take_of_length_le (by rw [← HN.out]; omega)] at this)
    go_wp2
    go_ret
    rw [HE.out, HX.out]
    exact ⟨rfl, rfl⟩
theorem qakq (l m : List (List UInt8)) (a b : Option Addr) (n1 c1 n2 c2 : Nat) (w : World) (h : RdL w (.slice a n1 c1) l) (k : RdL w (.slice b n2 c2) m) :
  Calls Tryz.prog 141 #[.slice a n1 c1, .slice b n2 c2, .func (.func 77) #[] #[]] w fun e w' => e = .returned (.bool (decide (l = m))) ∧ w' = w := by
 have H := hide h
 have K := hide k
 have E1 := hide h.le.1
 have E2 := hide k.le.1
 have hn1 : n1 ≤ maxLen := h.le.2.2
 unfold maxLen at hn1
 clear h k
 by_cases hn : n1 = n2
 ·subst hn
  go_enter Tryz.func141, Tryz.ntmps141
  go_wp2
  go_loop [17] (fun i => ∃ k : Nat, k ≤ n1 ∧ i = .int .i64 k ∧ Hid (l.take k = m.take k)) (fun i => n1 - (intOf i).toNat)
  case atStart => exact ⟨0, Nat.zero_le _, rfl, rfl⟩
  case round =>
   obtain ⟨k, hk, rfl, htk⟩ := hrel
   by_cases hlt : k < n1
   ·have hlt' : (k : Int) < n1 := by omega
    have hkl : k < l.length := by have := E1.out; omega
    have hkm : k < m.length := by have := E2.out; omega
    obtain ⟨b1, o1, y1, z1, rfl, q0, q1⟩ := H.out.at k hkl
    obtain ⟨b2, o2, y2, z2, rfl, r0, r1⟩ := K.out.at k hkm
    have HQ := hide q1
    have HR := hide r1
    clear q1 r1
    go_wp2_with fail
    refine (qgm _ _ l[k] m[k] _ HQ.out HR.out).mono ?_
    rintro e w3 ⟨rfl, rfl⟩
    by_cases hd : l[k] = m[k]
    ·have hd' : decide (l[k] = m[k]) = true := by simpa using hd
     rw [hd']
     have HD := hide hd
     clear hd hd'
     go_wp2
     go_round
     case rel => exact ⟨k + 1, by omega, by go_num, by show _ = _; rw [List.take_succ_eq_append_getElem hkl, List.take_succ_eq_append_getElem hkm, htk.out, HD.out]⟩
     case measure => simp [intOf] <;> omega
    ·have hd' : decide (l[k] = m[k]) = false := by simpa using hd
     rw [hd']
     have HE := hide (show decide (l = m) = false by
      simp only [decide_eq_false_iff_not]
      intro e
      apply hd
      simp only [e])
     clear hd hd'
     go_wp2
     go_ret
     exact ⟨by first | rfl | (rw [HE.out]; rfl), rfl⟩
   ·have hd : decide ((k : Int) < n1) = false := by simpa using (by omega : ¬ (k : Int) < n1)
    have HE := hide (show decide (l = m) = true by
     simp only [decide_eq_true_eq]
     have := htk.out
     rwa [List.take_of_length_le (by rw [← E1.out]; omega), List.take_of_length_le (by rw [← E2.out]; omega)] at this)
    go_wp2
    go_ret
    exact ⟨by first | rfl | (rw [HE.out]; rfl), rfl⟩
 ·have hn' : ((n1 : Int) != n2) = true := by simpa using (by omega : ¬ (n1 : Int) = n2)
  have HE := hide (show decide (l = m) = false by
   simp only [decide_eq_false_iff_not]
   intro e
   have := E1.out
   have := E2.out
   rw [e] at *
   omega)
  clear hn
  go_enter Tryz.func141, Tryz.ntmps141
  go_wp2
  go_ret
  exact ⟨by first | rfl | (rw [HE.out]; rfl), rfl⟩
def qag (f : Fsd) (s : List UInt8) : List (List UInt8) := if qay f s ≠ 0 then [] else (bloL f s).map fun n => nowD f.1 n.toNat
def headW (g : Nat) : List UInt8 := le4 g ++ List.replicate 124 0
theorem qqw (g : Nat) : (headW g).length = 128 := by simp [headW, le4]
theorem qly {g : Nat} (h : g < 4294967296) : genF (headW g) = g := by
 have e : (headW g).take 4 = le4 g := by simp [headW, le4]
 unfold genF; rw [e, qi1 _ h]
def qg0 (b : List UInt8) : Prop := genF b ≠ 0 ∧ b = headW (genF b)
instance (b : List UInt8) : Decidable (qg0 b) := inferInstanceAs (Decidable (_ ∧ _))
theorem qqx {g : Nat} (h : g < 4294967296) (h0 : g ≠ 0) : qg0 (headW g) := by
 unfold qg0; rw [qly h]; exact ⟨h0, rfl⟩
abbrev Wl := List UInt8 × Nat × Nat × Nat × Nat × Nat
def wz : Wl := ([], 0, 0, 0, 0, 0)
def logW (s : List UInt8) (L : List (List UInt8)) : Wl :=
 (s, genF (L.headD []), (logO (genF (L.headD [])) L.tail).length, endO 0 (logO (genF (L.headD [])) L.tail), qbz (genF (L.headD [])) (L.tail.drop (sumO (logO (genF (L.headD [])) L.tail))), sumO (logO (genF (L.headD [])) L.tail))
def recL (L : List (List UInt8)) : List (List UInt8) := (logO (genF (L.headD [])) L.tail).map (·.1)
def qbm (f : Fsd) (s : List UInt8) : Int := if qay f s ≠ 0 then qay f s else if (qag f s).length < 2 ∨ ¬ qg0 ((qag f s).headD []) then 8 else 0
def qax (f : Fsd) (s : List UInt8) : Wl := if qbm f s ≠ 0 then wz else logW s (qag f s)
def qd3 (f : Fsd) (s : List UInt8) : List (List UInt8) := if qbm f s ≠ 0 then [] else recL (qag f s)
def qdt (f : Fsd) (s : List UInt8) (at0 : Int) (l : List (List UInt8)) : Nat → Fsd × Int
 | 0 => (f, 0)
 | k + 1 => if (qdt f s at0 l k).2 ≠ 0 then qdt f s at0 l k else qcj (qdt f s at0 l k).1 s (at0 + k) (l.getD k [])
def qet (f : Fsd) (s : List UInt8) (at0 : Int) (l : List (List UInt8)) : Fsd × Int := qdt f s at0 l l.length
theorem qqy {f : Fsd} {s : List UInt8} {at0 : Int} {l : List (List UInt8)} {k : Nat} (h : (qdt f s at0 l k).2 ≠ 0) : ∀ j, qdt f s at0 l (k + j) = qdt f s at0 l k
 | 0 => rfl
 | j + 1 => by
  have e := qqy h j
  rw [← Nat.add_assoc, qdt, e, if_pos h]
def behE (f : Fsd) (w : Wl) : Int := if qbm f w.1 ≠ 0 then qbm f w.1 else if qax f w.1 ≠ w then 8 else 0
def behN (f : Fsd) (w : Wl) : Int := if behE f w ≠ 0 then 0 else ((qag f w.1).length : Int) - 1 - w.2.2.2.2.2
def hdW (w : Wl) : Hd := (w.2.1, w.2.2.1 + 1, max w.2.2.2.1 w.2.2.2.2.1 + 1, w.2.2.2.1)
def qc8 (w : Wl) (r : List UInt8) : Int := if 16384 < r.length then 3 else if max w.2.2.2.1 w.2.2.2.2.1 = 4294967295 then 9 else frmE (hdW w) r
def qb0 (w : Wl) (r : List UInt8) : List (List UInt8) := if qc8 w r ≠ 0 then [] else rowB (hdW w) r
abbrev Fw := Fsd × Wl × Int
def appX (f : Fsd) (w : Wl) (r : List UInt8) : Fsd × Int :=
 if behE f w ≠ 0 then (fz, behE f w) else if qc8 w r ≠ 0 then (fz, qc8 w r)
 else if behN f w < ((qb0 w r).length : Int) then (fz, 90)
 else if (qet f w.1 (1 + (w.2.2.2.2.2 : Int)) (qb0 w r)).2 ≠ 0 then (fz, (qet f w.1 (1 + (w.2.2.2.2.2 : Int)) (qb0 w r)).2)
 else if (qbh (qet f w.1 (1 + (w.2.2.2.2.2 : Int)) (qb0 w r)).1).2 ≠ 0 then (fz, (qbh (qet f w.1 (1 + (w.2.2.2.2.2 : Int)) (qb0 w r)).1).2)
 else qbh (qet f w.1 (1 + (w.2.2.2.2.2 : Int)) (qb0 w r)).1
def appW (f : Fsd) (w : Wl) (r : List UInt8) : Fw := if (appX f w r).2 ≠ 0 then (fz, wz, (appX f w r).2) else ((appX f w r).1, qax (appX f w r).1 w.1, qbm (appX f w r).1 w.1)
def qqz (f : Fsd) (w : Wl) : Int := behE f w
def qip (f : Fsd) (w : Wl) : Int := if behE f w ≠ 0 then 0 else if behN f w = 0 then -1 else min (behN f w * 107) 16384
def newW (f : Fsd) (s : List UInt8) (n : Int) : Fw :=
 if fsE f ≠ 0 then (fz, wz, fsE f) else if n < 2 ∨ 4096 < n then (fz, wz, 2)
 else if (qa4 f s n).2 ≠ 0 then (fz, wz, (qa4 f s n).2)
 else if qco (qag (qa4 f s n).1 s) = 4294967295 then (fz, wz, 9)
 else if (qcj (qa4 f s n).1 s 0 (headW (qco (qag (qa4 f s n).1 s) + 1))).2 ≠ 0 then (fz, wz, (qcj (qa4 f s n).1 s 0 (headW (qco (qag (qa4 f s n).1 s) + 1))).2)
 else ((qcj (qa4 f s n).1 s 0 (headW (qco (qag (qa4 f s n).1 s) + 1))).1, (s, qco (qag (qa4 f s n).1 s) + 1, 0, 0, 0, 0), 0)
/-! ### blocks -/
theorem qe3 {f : Fsd} {s : List UInt8} (h : qay f s = 0) : qag f s = (bloL f s).map fun n => nowD f.1 n.toNat := by
 unfold qag; rw [if_neg (fun e => e h)]
theorem qcx {f : Fsd} {s : List UInt8} (h : qay f s = 0) : (qag f s).length = (bloL f s).length := by rw [qe3 h, List.length_map]
theorem qhk {f : Fsd} {s : List UInt8} (h : qay f s = 0) {i : Nat} (hi : i < (qag f s).length) (hi' : i < (bloL f s).length) : (qag f s)[i] = nowD f.1 ((bloL f s)[i]).toNat := by
 simp only [qe3 h, List.getElem_map]
theorem qiq {f : Fsd} {s : List UInt8} : ∀ b ∈ qag f s, b.length = 128 := by
 intro b hb
 by_cases h : qay f s = 0
 ·rw [qe3 h, List.mem_map] at hb
  obtain ⟨n, hn, rfl⟩ := hb
  have := qcn h n hn
  exact qsm (qan (qlq h).1).1 (by omega)
 ·unfold qag at hb; rw [if_pos h] at hb; cases hb
theorem qch (f : Fsd) (s : List UInt8) : (qag f s).length ≤ 4096 := by
 by_cases h : qay f s = 0
 ·rw [qcx h]
  obtain ⟨hok, l, hl⟩ := qcd h
  obtain ⟨k, hk, e⟩ := List.getElem_of_mem hl
  have h1 := qafa f.2.2.1 k hk
  have h2 := qahx hok k
  have h3 := qahx hok (k + 1)
  rw [e] at h1
  have e2 : bloL f s = qaw l := (qc7 hok hl).2.2.2.1
  rw [e2]
  have h1 : sumS (List.take (k + 1) f.2.2.1) = sumS (List.take k f.2.2.1) + (qaw l).length := h1
  omega
 ·unfold qag; rw [if_pos h]; exact Nat.zero_le _
theorem qun (f : Fsd) (s : List UInt8) : chkL (qag f s) = 0 := qsv (qch f s) qiq
theorem qabk (f : Fsd) (s : List UInt8) : chkL (qag f s).tail = 0 := qsv (by have := qch f s; rw [List.length_tail]; omega) (fun b hb => qiq b (List.mem_of_mem_tail hb))
theorem qir {f : Fsd} {s : List UInt8} (h : qay f s = 0) : qjx f s = (qag f s).length := by rw [(qlq h).2.2, qcx h]
theorem qafn {f : Fsd} {s : List UInt8} (h : qay f s = 0) {i : Nat} (hi : i < (qag f s).length) : getE f s i = 0 ∧ getL f s i = (qag f s)[i] := by
 have hi' : i < (bloL f s).length := by rw [← qcx h]; exact hi
 obtain ⟨_, _, h1, h2⟩ := qqo h hi'
 exact ⟨h1, by rw [h2, qhk h hi hi']⟩
theorem qakr {f : Fsd} {s : List UInt8} (h : qay f s ≠ 0) : qag f s = [] := by unfold qag; rw [if_pos h]
theorem qdv {f : Fsd} {s : List UInt8} (h : qbm f s = 0) : qay f s = 0 ∧ 2 ≤ (qag f s).length ∧ qg0 ((qag f s).headD []) ∧ qax f s = logW s (qag f s) ∧ qd3 f s = recL (qag f s) := by
 have e1 : qax f s = logW s (qag f s) := by unfold qax; rw [if_neg (fun e => e h)]
 have e2 : qd3 f s = recL (qag f s) := by unfold qd3; rw [if_neg (fun e => e h)]
 unfold qbm at h
 by_cases h0 : qay f s = 0
 ·rw [if_neg (fun e => e h0)] at h
  by_cases h1 : (qag f s).length < 2 ∨ ¬ qg0 ((qag f s).headD [])
  ·rw [if_pos h1] at h; cases h
  ·have h2 : ¬ (qag f s).length < 2 := fun e => h1 (.inl e)
   have h3 : qg0 ((qag f s).headD []) := Classical.byContradiction fun e => h1 (.inr e)
   exact ⟨h0, by omega, h3, e1, e2⟩
 ·rw [if_pos h0] at h; exact absurd h h0
theorem qkf {f : Fsd} {s : List UInt8} (h0 : qay f s = 0) (h1 : 2 ≤ (qag f s).length) (h2 : qg0 ((qag f s).headD [])) : qbm f s = 0 := by
 unfold qbm
 rw [if_neg (fun e => e h0), if_neg]
 rintro (h | h)
 ·omega
 ·exact h h2
theorem qsw (s : List UInt8) (L : List (List UInt8)) (h : L.length ≤ 4096) : (logW s L).2.1 < 4294967296 ∧ (logW s L).2.2.1 ≤ 4096 ∧ (logW s L).2.2.2.1 < 4294967296 ∧ (logW s L).2.2.2.2.1 < 4294967296 ∧ (logW s L).2.2.2.2.2 ≤ L.length - 1 := by
 have hs := qin (genF (L.headD [])) (L.tail.length + 1) 1 0 L.tail
 have he := qio (genF (L.headD [])) (L.tail.length + 1) 1 0 L.tail (by omega)
 rw [List.length_tail] at hs
 refine ⟨qlu _, ?_, ?_, qoq _ _ _ (by omega), ?_⟩
 ·show (logO (genF (L.headD [])) L.tail).length ≤ 4096
  unfold logO
  rw [List.length_tail] at *
  omega
 ·exact he
 ·show sumO (logO (genF (L.headD [])) L.tail) ≤ _
  unfold logO
  rw [List.length_tail]
  exact hs.1
def pW (f : Fsd) (s : List UInt8) (at0 : Nat) (l : List (List UInt8)) : List Pu := (List.range l.length).map fun i => ((bloL f s).getD (at0 + i) 0, l.getD i [])
theorem qq0 (f : Fsd) (s : List UInt8) (at0 : Nat) (l : List (List UInt8)) : (pW f s at0 l).length = l.length := by simp [pW]
theorem qq1 (f : Fsd) (s : List UInt8) (at0 : Nat) (l : List (List UInt8)) (i : Nat) (hi : i < (pW f s at0 l).length) : (pW f s at0 l)[i] = ((bloL f s).getD (at0 + i) 0, l.getD i []) := by simp [pW]
def acW (ps : List Pu) : List Ac := ps.map fun p => (false, p)
theorem qsx (ps : List Pu) : (acW ps).length = ps.length := by simp [acW]
theorem pW_in {f : Fsd} {s : List UInt8} {at0 : Nat} {l : List (List UInt8)} (hs : qay f s = 0) (h128 : ∀ b ∈ l, b.length = 128) (hat : at0 + l.length ≤ (bloL f s).length) : ∀ p ∈ pW f s at0 l, putE (mny f.1) p = 0 ∧ 34 ≤ p.1 := by
 intro p hp
 unfold pW at hp
 obtain ⟨i, hi, rfl⟩ := List.mem_map.1 hp
 have hi : i < l.length := List.mem_range.1 hi
 have hi2 : at0 + i < (bloL f s).length := by omega
 have hr := qcn hs _ (List.getElem_mem hi2)
 have e1 : (bloL f s).getD (at0 + i) 0 = (bloL f s)[at0 + i] := by rw [List.getD_eq_getElem?_getD, List.getElem?_eq_getElem hi2]; rfl
 have e2 : l.getD i [] = l[i] := by rw [List.getD_eq_getElem?_getD, List.getElem?_eq_getElem hi]; rfl
 have hb := h128 _ (List.getElem_mem hi)
 refine ⟨?_, ?_⟩
 ·unfold putE
  rw [if_neg (by show ¬ ((bloL f s).getD (at0 + i) 0 < 0 ∨ _ ≤ (bloL f s).getD (at0 + i) 0); rw [e1]; omega), if_neg (by show ¬ (l.getD i []).length ≠ 128; rw [e2, hb]; simp)]
 ·show 34 ≤ (bloL f s).getD (at0 + i) 0
  rw [e1]; exact hr.1
def yW (f : Fsd) (ps : List Pu) : Fsd := (((f.1.1, f.1.2.1 ++ ps, f.1.2.2 ++ acW ps) : Dk), f.2)
theorem qabl {f : Fsd} {s : List UInt8} {i : Nat} {b : List UInt8} (hok : okFs f) (hs : qay f s = 0) (hi : i < (bloL f s).length) (hb : b.length = 128) (hW : f.1.2.1.length < 65536) (hA : f.1.2.2.length < 65536) :
  qcj f s i b = (yW f [((bloL f s)[i], b)], 0) ∧ okFs (yW f [((bloL f s)[i], b)]) := by
 obtain ⟨h1, h2, _, _⟩ := qqo hs hi
 have hr := qcn hs _ (List.getElem_mem hi)
 have hac : actE (mny f.1) (false, (bloL f s)[i], b) = 0 := by
  unfold actE putE
  rw [if_neg (by simp), if_neg (by show ¬ ((bloL f s)[i] < 0 ∨ _ ≤ (bloL f s)[i]); omega), if_neg (by show ¬ b.length ≠ 128; rw [hb]; simp)]
 have hone : oneD f.1 (false, (bloL f s)[i], b) = some (yW f [((bloL f s)[i], b)]).1 := by
  unfold oneD
  rw [if_neg (by show ¬ (65536 ≤ f.1.2.2.length ∨ (false = false ∧ 65536 ≤ f.1.2.1.length)); omega), if_neg (by simp)]
  rfl
 have hdo : doD f.1 [(false, (bloL f s)[i], b)] 1 = ((yW f [((bloL f s)[i], b)]).1, 0) := by
  rw [do1 (qan hok).1 hac, hone]
 have e : qcj f s i b = (yW f [((bloL f s)[i], b)], 0) := by
  rw [qahw, if_neg (by rw [qd2 hok]; simp), if_neg (by rw [h1]; simp), h2, hdo]
  simp [yW]
 refine ⟨e, ?_⟩
 have := (qon (f := f) (s := s) (i := i) (b := b) (by rw [e])).1
 rw [e] at this
 exact this
theorem yW_yW (f : Fsd) (a b : List Pu) : yW (yW f a) b = yW f (a ++ b) := by simp [yW, acW]
theorem yW_nil (f : Fsd) : yW f [] = f := by simp [yW, acW]
theorem qup {f : Fsd} {s : List UInt8} {at0 : Nat} {l : List (List UInt8)} (hok : okFs f) (hs : qay f s = 0) (h128 : ∀ b ∈ l, b.length = 128) (hat : at0 + l.length ≤ (bloL f s).length) (hW : f.1.2.1.length + l.length ≤ 65536) (hA : f.1.2.2.length + l.length ≤ 65536) :
  ∀ k, k ≤ l.length → qdt f s at0 l k = (yW f ((pW f s at0 l).take k), 0) ∧ okFs (yW f ((pW f s at0 l).take k))
 | 0, _ => by rw [List.take_zero, yW_nil]; exact ⟨rfl, hok⟩
 | k + 1, hk => by
  obtain ⟨h1, h2⟩ := qup hok hs h128 hat hW hA k (by omega)
  have hpl := qq0 f s at0 l
  have hd : (yW f ((pW f s at0 l).take k)).2.2.1 = f.2.2.1 := rfl
  have hsy : qay (yW f ((pW f s at0 l).take k)) s = 0 := by rw [qhh hd hok h2]; exact hs
  have hby : bloL (yW f ((pW f s at0 l).take k)) s = bloL f s := (qgv hd s).1
  have htk : ((pW f s at0 l).take k).length = k := by rw [List.length_take, hpl]; omega
  have hi : at0 + k < (bloL (yW f ((pW f s at0 l).take k)) s).length := by rw [hby]; omega
  have hb : (l.getD k []).length = 128 := by
   have hk' : k < l.length := by omega
   rw [List.getD_eq_getElem?_getD, List.getElem?_eq_getElem hk']; exact h128 _ (List.getElem_mem hk')
  obtain ⟨p1, p2⟩ := qabl (b := l.getD k []) h2 hsy hi hb (by show (f.1.2.1 ++ _).length < 65536; rw [List.length_append, htk]; omega) (by show (f.1.2.2 ++ acW _).length < 65536; rw [List.length_append, qsx, htk]; omega)
  have e : (pW f s at0 l).take (k + 1) = (pW f s at0 l).take k ++ [((bloL (yW f ((pW f s at0 l).take k)) s)[at0 + k], l.getD k [])] := by
   rw [List.take_succ_eq_append_getElem (by omega), qq1]
   congr 2
   have h9 : at0 + k < (bloL f s).length := by omega
   refine Prod.ext ?_ rfl
   simp only [hby]
   rw [List.getD_eq_getElem?_getD, List.getElem?_eq_getElem h9]; rfl
  rw [yW_yW, ← e] at p1 p2
  refine ⟨?_, p2⟩
  rw [qdt, h1, if_neg (by simp)]
  have ei : (at0 : Int) + (k : Nat) = ((at0 + k : Nat) : Int) := by omega
  rw [ei]
  exact p1
def zW (f : Fsd) (ps : List Pu) : Fsd := (((qdk f.1.1 (f.1.2.1 ++ ps), [], f.1.2.2 ++ acW ps ++ [(true, 0, [])]) : Dk), f.2)
theorem qafo {f : Fsd} {ps : List Pu} (hok : okFs (yW f ps)) (hA : f.1.2.2.length + ps.length < 65536) : qbh (yW f ps) = (zW f ps, 0) ∧ okFs (zW f ps) := by
 have hone : oneD (yW f ps).1 (true, 0, []) = some (zW f ps).1 := by
  unfold oneD
  rw [if_neg (by show ¬ (65536 ≤ (f.1.2.2 ++ acW ps).length ∨ (true = false ∧ _)); rw [List.length_append, qsx]; simp; omega), if_pos rfl]
  rfl
 have hdo : doD (yW f ps).1 [(true, 0, [])] 1 = ((zW f ps).1, 0) := by rw [do1 (qan hok).1 (qby _), hone]
 have e : qbh (yW f ps) = (zW f ps, 0) := by
  rw [qaaq, if_neg (by rw [qd2 hok]; simp), hdo]
  simp [zW, yW]
 refine ⟨e, ?_⟩
 have := (qud (f := yW f ps) (by rw [e])).2.1
 rw [e] at this
 exact this
theorem quq : ∀ (l : List Pu), kept l (List.replicate l.length true) = l
 | [] => rfl
 | p :: l => by rw [List.length_cons, List.replicate_succ]; simp only [kept, quq l]; rfl
theorem qis {ps : List Pu} {n : Int} (K : List Bool) (h : ∀ p ∈ ps, p.1 ≠ n) : qbt n (kept ps K) = none := quf fun p hp => h p (qey _ _ _ hp)
theorem qnf : ∀ (ps : List Pu) (K : List Bool), (ps.map (·.1)).Nodup → ∀ (i : Nat) (hi : i < ps.length), qbt (ps[i]).1 (kept ps K) = if K.getD i false then some (ps[i]).2 else none
 | [], _, _, _, hi => absurd hi (by simp)
 | p :: ps, [], _, i, hi => by simp [kept, qbt]
 | p :: ps, b :: K, hnd, 0, hi => by
  rw [List.map_cons, List.nodup_cons] at hnd
  have hno : qbt p.1 (kept ps K) = none := qis K fun q hq e => hnd.1 (e ▸ List.mem_map_of_mem hq)
  cases b
  ·simpa [kept] using hno
  ·simp [kept, qbt, hno]
 | p :: ps, b :: K, hnd, i + 1, hi => by
  rw [List.map_cons, List.nodup_cons] at hnd
  have hi' : i < ps.length := by simpa using hi
  have ih := qnf ps K hnd.2 i hi'
  have hne : p.1 ≠ (ps[i]).1 := fun e => hnd.1 (e ▸ List.mem_map_of_mem (List.getElem_mem hi'))
  rw [List.getElem_cons_succ]
  have e1 : (b :: K).getD (i + 1) false = K.getD i false := rfl
  rw [e1]
  cases b
  ·exact ih
  ·have e2 : kept (p :: ps) (true :: K) = p :: kept ps K := by simp [kept]
   rw [e2, qbt, ih]
   by_cases hK : K.getD i false = true
   ·rw [if_pos hK]
   ·rw [if_neg hK]; simp [hne]
theorem qafp {f : Fsd} {s : List UInt8} {at0 : Nat} {l : List (List UInt8)} (hs : qay f s = 0) (hat : at0 + l.length ≤ (bloL f s).length) : ((pW f s at0 l).map (·.1)).Nodup := by
 obtain ⟨hok, L, hL⟩ := qcd hs
 have hnd : (bloL f s).Nodup := by rw [(qc7 hok hL).2.2.2.1]; exact qhi hok hL
 have e : (pW f s at0 l).map (·.1) = ((bloL f s).drop at0).take l.length := by
  apply List.ext_getElem
  ·rw [List.length_map, qq0, List.length_take, List.length_drop]; omega
  ·intro i h1 h2
   rw [List.length_map, qq0] at h1
   rw [List.getElem_map, qq1, List.getElem_take, List.getElem_drop]
   have h9 : at0 + i < (bloL f s).length := by omega
   show (bloL f s).getD (at0 + i) 0 = _
   rw [List.getD_eq_getElem?_getD, List.getElem?_eq_getElem h9]; rfl
 rw [e]
 exact (hnd.sublist (List.drop_sublist _ _)).sublist (List.take_sublist _ _)
theorem qabm {f z : Fsd} {s : List UInt8} {at0 : Nat} {l : List (List UInt8)} {K : List Bool} {A : List Ac} (hs : qay f s = 0) (h128 : ∀ b ∈ l, b.length = 128) (hat : at0 + l.length ≤ (bloL f s).length) (hW : f.1.2.1 = [])
  (hz : qay z s = 0) (hb : bloL z s = bloL f s) (hd : z.1 = (qdk f.1.1 (kept (pW f s at0 l) K), [], A)) : qag z s = layL (qag f s) at0 l K := by
 have hok := (qlq hs).1
 have hokd := (qan hok).1
 have hlf := qcx hs
 have hlz := qcx hz
 have hpl := qq0 f s at0 l
 apply List.ext_getElem
 ·rw [qb2, hlz, hb, hlf]
 ·intro i h1 h2
  have hi : i < (bloL f s).length := by rw [← hb, ← hlz]; exact h1
  have hif : i < (qag f s).length := by rw [hlf]; exact hi
  rw [qhk hz h1 (by rw [hb]; exact hi), qdu _ _ _ _ _ hif]
  have eb : (bloL z s)[i]'(by rw [hb]; exact hi) = (bloL f s)[i] := by simp only [hb]
  rw [eb, qhk hs hif hi]
  have hr := qcn hs _ (List.getElem_mem hi)
  obtain ⟨n, hn⟩ : ∃ n : Nat, (bloL f s)[i] = n := ⟨((bloL f s)[i]).toNat, by omega⟩
  have hnt : ((bloL f s)[i]).toNat = n := by omega
  rw [hnt]
  have hin : ∀ p ∈ kept (pW f s at0 l) K, 0 ≤ p.1 ∧ 128 * p.1.toNat + 128 ≤ f.1.1.length ∧ p.2.length = 128 := by
   intro p hp
   have := (pW_in hs h128 hat p (qey _ _ _ hp)).1
   obtain ⟨a, b, c⟩ := qcz this
   have hl := qfz hokd
   exact ⟨a, by omega, c⟩
  have e1 : nowD z.1 n = (qbt n (kept (pW f s at0 l) K)).getD (blk f.1.1 n) := by
   rw [hd]
   show blk (qdk f.1.1 (kept (pW f s at0 l) K)) n = _
   exact qfc f.1.1 n _ _ rfl hin
  have e2 : nowD f.1 n = blk f.1.1 n := by unfold nowD; rw [hW]; rfl
  rw [e1, e2]
  obtain ⟨_, L, hL⟩ := qcd hs
  have hnd : (bloL f s).Nodup := by rw [(qc7 hok hL).2.2.2.1]; exact qhi hok hL
  by_cases hc : at0 ≤ i ∧ i - at0 < l.length
  ·have hj : i - at0 < (pW f s at0 l).length := by omega
   have hp1 : ((pW f s at0 l)[i - at0]).1 = n := by
    rw [qq1]
    show (bloL f s).getD (at0 + (i - at0)) 0 = n
    have : at0 + (i - at0) = i := by omega
    rw [this, List.getD_eq_getElem?_getD, List.getElem?_eq_getElem hi]
    exact hn
   have hp2 : ((pW f s at0 l)[i - at0]).2 = l.getD (i - at0) [] := by rw [qq1]
   have := qnf (pW f s at0 l) K (qafp hs hat) (i - at0) hj
   rw [hp1, hp2] at this
   rw [this]
   by_cases hK : K.getD (i - at0) false = true
   ·rw [if_pos hK, if_pos ⟨hc.1, hc.2, hK⟩]; rfl
   ·rw [if_neg hK, if_neg (fun h => hK h.2.2)]; rfl
  ·rw [if_neg (fun h => hc ⟨h.1, h.2.1⟩), qis]
   ·rfl
   ·intro p hp e
    obtain ⟨j, hj, rfl⟩ := List.getElem_of_mem hp
    rw [qq1] at e
    have hj' : j < l.length := by omega
    have h9 : at0 + j < (bloL f s).length := by omega
    have e : (bloL f s).getD (at0 + j) 0 = n := e
    rw [List.getD_eq_getElem?_getD, List.getElem?_eq_getElem h9] at e
    have e : (bloL f s)[at0 + j] = (bloL f s)[i] := by rw [hn]; exact e
    have : at0 + j = i := (List.getElem_inj hnd).1 e
    omega
end Go.Proofs.YtipokepnhjlgdaaGreat
