/-
  What the document's Do does.
-/
import Derived.Test.YtabaomacfijppaaGreatLAgain
namespace Go.Proofs.YtabaomacfijppaaGreat
open Go.RowKit
set_option linter.unusedVariables false
set_option linter.unusedSimpArgs false

def errD (d : Dk) (l : List Ac) : Int := if chk d ≠ 0 then chk d else firstE (mny d) l
theorem errD_nil (d : Dk) : errD d [] = chk d := by
  unfold errD
  by_cases h : chk d = 0
  · rw [if_neg (by simpa using h), h]; rfl
  · rw [if_pos h]
theorem firstE_snoc (k : Nat) (a : Ac) : ∀ l : List Ac, firstE k (l ++ [a]) = if firstE k l = 0 then actE k a else firstE k l
  | [] => by
    show (if actE k a = 0 then (0 : Int) else actE k a) = _
    by_cases h : actE k a = 0
    · simp [h, firstE]
    · simp [h, firstE]
  | b :: l => by
    have ih := firstE_snoc k a l
    show (if actE k b = 0 then firstE k (l ++ [a]) else actE k b) = if (if actE k b = 0 then firstE k l else actE k b) = 0 then actE k a else (if actE k b = 0 then firstE k l else actE k b)
    by_cases h : actE k b = 0
    · simp only [h, if_true]; exact ih
    · simp only [h, if_false]
theorem errD_step (d : Dk) (l : List Ac) (k : Nat) (hk : k < l.length) (h : errD d (l.take k) = 0) : errD d (l.take (k + 1)) = actE (mny d) l[k] := by
  unfold errD at h ⊢
  by_cases hc : chk d = 0
  · rw [if_neg (by simpa using hc)] at h ⊢
    rw [List.take_succ_eq_append_getElem hk, firstE_snoc, if_pos h]
  · rw [if_pos hc] at h; exact absurd h hc
theorem firstE_more (k : Nat) : ∀ (l l' : List Ac), firstE k l ≠ 0 → firstE k (l ++ l') = firstE k l
  | [], _, h => absurd rfl h
  | b :: l, l', h => by
    rw [List.cons_append]
    unfold firstE at h ⊢
    by_cases hb : actE k b = 0
    · rw [if_pos hb] at h ⊢; rw [if_pos hb]; exact firstE_more k l l' h
    · rw [if_neg hb, if_neg hb]
theorem errD_more (d : Dk) (l : List Ac) (k : Nat) (h : errD d (l.take k) ≠ 0) : errD d l = errD d (l.take k) := by
  unfold errD at h ⊢
  by_cases hc : chk d = 0
  · rw [if_neg (by simpa using hc)] at h ⊢
    rw [if_neg (by simpa using hc)]
    have := firstE_more (mny d) (l.take k) (l.drop k) h
    rwa [List.take_append_drop] at this
  · rw [if_pos hc, if_pos hc]
theorem doD_err' (d : Dk) (l : List Ac) (many : Int) (h : errD d l ≠ 0) : doD d l many = (dz, errD d l) := by
  unfold doD
  unfold errD at h ⊢
  by_cases hc : chk d = 0
  · have hx : ¬ (chk d ≠ 0) := by simpa using hc
    simp only [if_neg hx] at h ⊢
    rw [if_pos h]
  · rw [if_pos hc, if_pos hc]
theorem errD_zero (d : Dk) (l : List Ac) (h : errD d l = 0) : chk d = 0 ∧ firstE (mny d) l = 0 := by
  unfold errD at h
  by_cases hc : chk d = 0
  · rw [if_neg (by simpa using hc)] at h
    exact ⟨hc, h⟩
  · rw [if_pos hc] at h; exact absurd h hc
theorem doD_two (d : Dk) (l : List Ac) (many : Int) (h : errD d l = 0) (hm : many < 0 ∨ (l.length : Int) < many) : doD d l many = (dz, 2) := by
  obtain ⟨h1, h2⟩ := errD_zero d l h
  unfold doD
  rw [if_neg (by rw [h1]; decide), if_neg (by rw [h2]; decide), if_pos hm]
theorem doD_go (d : Dk) (l : List Ac) (mn : Nat) (h : errD d l = 0) (hm : mn ≤ l.length) : doD d l mn = (match onesD d (l.take mn) with | none => (dz, 9) | some x => (x, 0)) := by
  obtain ⟨h1, h2⟩ := errD_zero d l h
  unfold doD
  rw [if_neg (by rw [h1]; decide), if_neg (by rw [h2]; decide), if_neg (by omega)]
  rfl
theorem chk_ok' {d : Dk} (h : chk d = 0) : okD d = true := by
  rcases chk_cases d with ⟨h1, _⟩ | ⟨_, h2⟩
  · exact h1
  · rw [h2] at h; cases h

set_option maxHeartbeats 2000000 in
set_option maxRecDepth 100000 in
theorem rdo_any {d : Dk} {v : Value} (l : List Ac) (a : Option Addr) (n c : Nat) (many : Int) (w : World) (hD : RdD w v d) (hA : RdA w (.slice a n c) l) (hn : n = l.length) :
    Calls Tryz.prog 54 #[v, .slice a n c, .int .i64 many] w fun e w' => ∃ dv, e = .returned (.tuple #[dv, .int .i64 (doD d l many).2]) ∧ OwD w' w.heap.size dv (doD d l many).1 ∧ Below w.heap.size w w' := by
  obtain ⟨a1, c1, a2, c2, a3, c3, rfl, h1, h2, h3⟩ := hD.form
  have hml := hA.len_le
  have hml1 := h1.len_le
  have HD := hide hD
  have HA := hide hA
  have HN := hide hn
  have hnm : n ≤ maxLen := by omega
  clear hD hA hn hml h1 h2 h3
  unfold maxLen at hnm
  generalize e1 : d.1.length = n1 at *
  generalize e2 : d.2.1.length = n2 at *
  generalize e3 : d.2.2.length = n3 at *
  have HNM := hide hml1
  have HMY := hide (show mny d = n1 / 128 by rw [← e1]; rfl)
  clear e1 e2 e3 hml1
  obtain ⟨w1, ew⟩ : ∃ w1, (w.alloc (.cells #[.slice a1 n1 c1, .slice a2 n2 c2, .slice a3 n3 c3] 26)).alloc (.cells #[.slice none 0 0, .slice none 0 0, .slice none 0 0] 26) = w1 := ⟨_, rfl⟩
  have hb1 : Below w.heap.size w w1 := by rw [← ew]; exact ((Below.refl _ _).alloc (Nat.le_refl _) _).alloc (by simp) _
  have hd1 : w1.heap[w.heap.size]? = some (.cells #[.slice a1 n1 c1, .slice a2 n2 c2, .slice a3 n3 c3] 26 (0, 0)) := by
    rw [← ew, heap_alloc_old _ _ (by simp)]; exact heap_alloc_new _ _
  have hr1 : w1.heap[w.heap.size + 1]? = some (.cells #[.slice none 0 0, .slice none 0 0, .slice none 0 0] 26 (0, 0)) := by rw [← ew]; exact heap_alloc2 _ _ _
  obtain ⟨k0, k1, k2, _⟩ := cells3 hd1
  go_enter Tryz.func54, Tryz.ntmps54
  go_wp2_with fail
  refine (rcheck_any (d := d) _ (HD.out.carry hb1)).mono ?_
  rintro e w2 ⟨rfl, hb2⟩
  have hB2 : Below w.heap.size w w2 := hb1.trans (hb2.mono hb1.size)
  have hd2 := keeps_block _ _ _ _ hd1 hb2
  have hr2 := keeps_block _ _ _ _ hr1 hb2
  clear ew k0 k1 k2 hr1 hd1 hb1 hb2
  obtain ⟨ce, hce⟩ : ∃ ce, chk d = ce := ⟨_, rfl⟩
  rw [hce]
  have HCE := hide hce
  clear hce
  go_wp2
  go_loopw [8, 9] (fun ee i wr => ∃ (k : Nat) (E : Int), k ≤ n ∧ ee = .int .i64 E ∧ i = .int .i64 k ∧ Hid (errD d (l.take k) = E) ∧ Below w2.heap.size w2 wr) (fun _ i _ => n - (intOf i).toNat)
  case atStart => exact ⟨0, ce, Nat.zero_le _, rfl, rfl, (errD_nil d).trans HCE.out, Below.refl _ _⟩
  case round =>
    obtain ⟨k, E, hk, rfl, rfl, hE, hbel⟩ := hrel
    have hBr : Below w.heap.size w wr := hB2.trans (hbel.mono hB2.size)
    have hdr := keeps_block _ _ _ _ hd2 hbel
    have hrr := keeps_block _ _ _ _ hr2 hbel
    obtain ⟨k0, k1, k2, _⟩ := cells3 hdr
    by_cases hE0 : E = 0
    case neg =>
      have HE := hide (show doD d l many = (dz, E) by
        have h1 := hE.out
        have h2 := errD_more d l k (by rw [h1]; exact hE0)
        rw [doD_err' d l many (by rw [h2, h1]; exact hE0), h2, h1])
      have hE1 : (E == 0) = false := by simpa using hE0
      have hE2 : (E != 0) = true := by simpa using hE0
      clear k0 k1 k2 hdr
      by_cases hlt : k < n
      · have hlt' : (k : Int) < n := by omega
        obtain ⟨ws, ews, hws, hgs⟩ := stored3 (.slice none 0 0) (.slice none 0 0) (.slice none 0 0) hrr
        obtain ⟨z1, z2, z3, z4⟩ := cells3 hrr
        obtain ⟨q1, q2, q3, q4⟩ := cells3 hws
        have hbs := hBr.grown hgs hBr.size (fun k hk => by cases hk; simp)
        clear hws hgs
        go_wp2
        refine bodyPost_ret (v := .tuple #[.agg #[.slice none 0 0, .slice none 0 0, .slice none 0 0], .int .i64 E]) ?_ rfl ?_
        · simp [results, Tryz.results54, go_sem, *]
        · rw [HE.out]; exact ⟨_, rfl, OwD_zero _ _, hbs⟩
      · have hlt' : decide ((k : Int) < n) = false := by simpa using (by omega : ¬ (k : Int) < n)
        obtain ⟨ws, ews, hws, hgs⟩ := stored3 (.slice none 0 0) (.slice none 0 0) (.slice none 0 0) hrr
        obtain ⟨z1, z2, z3, z4⟩ := cells3 hrr
        obtain ⟨q1, q2, q3, q4⟩ := cells3 hws
        have hbs := hBr.grown hgs hBr.size (fun k hk => by cases hk; simp)
        clear hws hgs
        go_wp2
        refine bodyPost_ret (v := .tuple #[.agg #[.slice none 0 0, .slice none 0 0, .slice none 0 0], .int .i64 E]) ?_ rfl ?_
        · simp [results, Tryz.results54, go_sem, *]
        · rw [HE.out]; exact ⟨_, rfl, OwD_zero _ _, hbs⟩

    subst hE0
    by_cases hlt : k < n
    · have hlt' : (k : Int) < n := by omega
      have hkl : k < l.length := by have := HN.out; omega
      obtain ⟨b, off, rfl, q0, q0', x, m, c9, q1, q2, q3⟩ := (HA.out.carry hBr).at k hkl
      have HX := hide q3
      clear q2 q3
      obtain ⟨pe, hpe⟩ : ∃ pe, actE (mny d) l[k] = pe := ⟨_, rfl⟩
      have HPE := hide (show actE (n1 / 128) ((l[k]).1, (l[k]).2.1, (l[k]).2.2) = pe by rw [← HMY.out]; exact hpe)
      have HST := hide ((errD_step d l k hkl hE.out).trans hpe)
      clear hpe
      have hK : Keeps (fun wx => (wx.cell? ⟨w.heap.size, 0, none⟩ = some (.slice a1 n1 c1) ∧ wx.cell? ⟨w.heap.size, 1, none⟩ = some (.slice a2 n2 c2) ∧ wx.cell? ⟨w.heap.size, 2, none⟩ = some (.slice a3 n3 c3)) ∧ (wx.cell? ⟨b, off + k * 3, none⟩ = some (.bool (l[k]).1) ∧ wx.cell? ⟨b, off + k * 3 + 1, none⟩ = some (.int .i64 (l[k]).2.1) ∧ wx.cell? ⟨b, off + k * 3 + 2, none⟩ = some (.slice x m c9)) ∧ Below w2.heap.size w2 wx) := ((keeps_cell _ _).and ((keeps_cell _ _).and (keeps_cell _ _))).and (((keeps_cell _ _).and ((keeps_cell _ _).and (keeps_cell _ _))).and (keeps_below _))
      go_wp2
      refine reg_begin hK (by kernel_rfl) ⟨⟨k0, k1, k2⟩, ⟨q0, q0', q1⟩, hbel⟩ ?_
      intro hS
      refine reg_take (i := 0) (v := ?qav0) rfl (by kernel_rfl) (by kernel_rfl) (by kernel_rfl) (by rfl) ?qay0 hS ?qar0
      case qay0 => (rintro wx ⟨⟨x1, x2, x3⟩, ⟨y1, y2, y3⟩, hbx⟩; go_simp; all_goals (with_reducible rfl))
      try simp only [Act.put, List.setIfInBounds_toArray, List.set_cons_zero, List.set_cons_succ]
      refine reg_take (i := 1) (v := ?qav1) rfl (by kernel_rfl) (by kernel_rfl) (by kernel_rfl) (by rfl) ?qay1 hS ?qar1
      case qay1 => (rintro wx ⟨⟨x1, x2, x3⟩, ⟨y1, y2, y3⟩, hbx⟩; go_simp; all_goals (with_reducible rfl))
      try simp only [Act.put, List.setIfInBounds_toArray, List.set_cons_zero, List.set_cons_succ]
      refine reg_take (i := 2) (v := ?qav2) rfl (by kernel_rfl) (by kernel_rfl) (by kernel_rfl) (by rfl) ?qay2 hS ?qar2
      case qay2 => (rintro wx ⟨⟨x1, x2, x3⟩, ⟨y1, y2, y3⟩, hbx⟩; go_simp; all_goals (with_reducible rfl))
      try simp only [Act.put, List.setIfInBounds_toArray, List.set_cons_zero, List.set_cons_succ]
      refine reg_take (i := 3) (v := ?qav3) rfl (by kernel_rfl) (by kernel_rfl) (by kernel_rfl) (by rfl) ?qay3 hS ?qar3
      case qay3 => (rintro wx ⟨⟨x1, x2, x3⟩, ⟨y1, y2, y3⟩, hbx⟩; go_simp; all_goals (with_reducible rfl))
      try simp only [Act.put, List.setIfInBounds_toArray, List.set_cons_zero, List.set_cons_succ]
      refine reg_take (i := 4) (v := ?qav4) rfl (by kernel_rfl) (by kernel_rfl) (by kernel_rfl) (by rfl) ?qay4 hS ?qar4
      case qay4 => (rintro wx ⟨⟨x1, x2, x3⟩, ⟨y1, y2, y3⟩, hbx⟩; go_simp; all_goals (with_reducible rfl))
      try simp only [Act.put, List.setIfInBounds_toArray, List.set_cons_zero, List.set_cons_succ]
      refine reg_callv hK (i := 5) (v := .int .i64 (n1 / 128 : Nat)) rfl (by kernel_rfl) (by rfl) (by go_simp) hS (rmany_any a1 a2 a3 n1 c1 n2 c2 n3 c3 HNM.out _) ?_
      clear hS
      intro w31 hS
      try simp only [Act.put, List.setIfInBounds_toArray, List.set_cons_zero, List.set_cons_succ]
      refine reg_callv hK (i := 6) (v := .int .i64 pe) rfl (by kernel_rfl) (by rfl) (by go_simp) hS ((ract_any (l[k]).1 (l[k]).2.1 x m c9 (l[k]).2.2 (n1 / 128) HX.out _).mono fun e wy ⟨h1, h2⟩ => ⟨h1.trans (by rw [HPE.out]), h2⟩) ?_
      clear hS
      intro w32 hS
      try simp only [Act.put, List.setIfInBounds_toArray, List.set_cons_zero, List.set_cons_succ]
      refine reg_take (i := 7) (v := ?qav7) rfl (by kernel_rfl) (by kernel_rfl) (by kernel_rfl) (by rfl) ?qay7 hS ?qar7
      case qay7 => (rintro wx ⟨⟨x1, x2, x3⟩, ⟨y1, y2, y3⟩, hbx⟩; go_simp; all_goals (with_reducible rfl))
      try simp only [Act.put, List.setIfInBounds_toArray, List.set_cons_zero, List.set_cons_succ]
      refine wpAnyH_done (by kernel_rfl) ?_ _
      refine NoPanic.normal ?_
      obtain ⟨_, _, hb9⟩ := hS
      go_wp2
      go_roundw
      case rel => exact ⟨k + 1, pe, by omega, rfl, by go_num, HST.out, hb9⟩
      case measure => simp [intOf] <;> omega
    have hlt' : decide ((k : Int) < n) = false := by simpa using (by omega : ¬ (k : Int) < n)
    have HE00 := hide (show errD d l = 0 by
      have := hE.out
      rwa [List.take_of_length_le (by have := HN.out; omega)] at this)
    by_cases hm0 : many < 0
    · have HE := hide (doD_two d l many HE00.out (.inl hm0))
      clear k0 k1 k2 hdr
      obtain ⟨ws, ews, hws, hgs⟩ := stored3 (.slice none 0 0) (.slice none 0 0) (.slice none 0 0) hrr
      obtain ⟨z1, z2, z3, z4⟩ := cells3 hrr
      obtain ⟨q1, q2, q3, q4⟩ := cells3 hws
      have hbs := hBr.grown hgs hBr.size (fun k hk => by cases hk; simp)
      clear hws hgs
      go_wp2
      refine bodyPost_ret (v := .tuple #[.agg #[.slice none 0 0, .slice none 0 0, .slice none 0 0], .int .i64 2]) ?_ rfl ?_
      · simp [results, Tryz.results54, go_sem, *]
      · rw [HE.out]; exact ⟨_, rfl, OwD_zero _ _, hbs⟩

    have hm0' : decide (many < 0) = false := by simpa using hm0
    by_cases hm1 : (n : Int) < many
    · have HE := hide (doD_two d l many HE00.out (.inr (by rw [← HN.out]; exact hm1)))
      clear k0 k1 k2 hdr
      obtain ⟨ws, ews, hws, hgs⟩ := stored3 (.slice none 0 0) (.slice none 0 0) (.slice none 0 0) hrr
      obtain ⟨z1, z2, z3, z4⟩ := cells3 hrr
      obtain ⟨q1, q2, q3, q4⟩ := cells3 hws
      have hbs := hBr.grown hgs hBr.size (fun k hk => by cases hk; simp)
      clear hws hgs
      go_wp2
      refine bodyPost_ret (v := .tuple #[.agg #[.slice none 0 0, .slice none 0 0, .slice none 0 0], .int .i64 2]) ?_ rfl ?_
      · simp [results, Tryz.results54, go_sem, *]
      · rw [HE.out]; exact ⟨_, rfl, OwD_zero _ _, hbs⟩

    obtain ⟨mn, rfl⟩ : ∃ mn : Nat, many = mn := ⟨many.toNat, by omega⟩
    have hmn : mn ≤ n := by omega
    have hm1' : decide ((n : Int) < mn) = false := by simpa using hm1
    have HE := hide (doD_go d l mn HE00.out (by have := HN.out; omega))
    have HOK := hide (chk_ok' (errD_zero d l HE00.out).1)
    have HAA := hide (firstE_zero _ _ (errD_zero d l HE00.out).2)
    obtain ⟨hfine, hc1, hc2⟩ := Fine.of_ok HOK.out
    have HF := hide hfine
    clear hfine HE00 hm0 hm1 hE HCE
    go_wp2_with fail
    refine (twin_ok (d := d) wr (HD.out.carry hBr) HOK.out).mono ?_
    rintro e w3 ⟨v3, B, rfl, hDv3, hb3⟩
    obtain ⟨g3, cap3, y2, yc2, y3, yc3, rfl, _⟩ := id hDv3
    obtain ⟨w4, ew4⟩ : ∃ w4, w3.alloc (.cells #[.slice (some ⟨g3, 0, none⟩) d.1.length cap3, .slice y2 d.2.1.length yc2, .slice y3 d.2.2.length yc3] 26) = w4 := ⟨_, rfl⟩
    have hb4 : Below w3.heap.size w3 w4 := by rw [← ew4]; exact (Below.refl _ _).alloc (Nat.le_refl _) _
    have hX4 : w4.heap[w3.heap.size]? = some (.cells #[.slice (some ⟨g3, 0, none⟩) d.1.length cap3, .slice y2 d.2.1.length yc2, .slice y3 d.2.2.length yc3] 26 (0, 0)) := by rw [← ew4]; exact heap_alloc_new _ _
    have hB3 := hBr.trans (hb3.mono hBr.size)
    have hB4 := hB3.trans (hb4.mono hB3.size)
    have hR4 := keeps_block _ _ _ _ (keeps_block _ _ _ _ hrr hb3) hb4
    have HDV := hide ((hDv3.carry hb4).mono hBr.size)
    have hgx : w.heap.size + 1 < w3.heap.size := Nat.lt_of_lt_of_le (Array.getElem?_eq_some_iff.1 hrr).1 hb3.size
    obtain ⟨gX, hgX⟩ : ∃ gX, gX = w3.heap.size := ⟨_, rfl⟩
    rw [← hgX] at hX4 hgx
    clear hDv3 hb3 hb4 hrr hdr k0 k1 k2 hbel hBr hB3 hlt hlt' hk
    go_wp2
    rw [← hgX]
    clear hgX ew4
    go_loopw [11] (fun i wq => ∃ (k : Nat) (dk : Dk) (X : Bv), k ≤ mn ∧ i = .int .i64 k ∧ wq.heap[gX]? = some (.cells #[.slice X.a1 X.n1 X.c1, .slice X.a2 X.n2 X.c2, .slice X.a3 X.n3 X.c3] 26 (0, 0)) ∧ wq.heap[w.heap.size + 1]? = some (.cells #[.slice none 0 0, .slice none 0 0, .slice none 0 0] 26 (0, 0)) ∧ Hid (onesD d (l.take k) = some dk ∧ Fine (mny d) dk ∧ Dv wq w.heap.size B (.agg #[.slice X.a1 X.n1 X.c1, .slice X.a2 X.n2 X.c2, .slice X.a3 X.n3 X.c3]) dk) ∧ Below w.heap.size w wq) (fun i _ => mn - (intOf i).toNat)
    case atStart => exact ⟨0, d, ⟨_, _, _, _, _, _, _, _, _, 0⟩, Nat.zero_le _, rfl, hX4, hR4, ⟨rfl, HF.out, HDV.out⟩, hB4⟩
    case round =>
      obtain ⟨k, dk, X, hk, rfl, hXq, hRq, hin, hbel⟩ := hrel
      obtain ⟨hx0, hx1, hx2, hx3⟩ := cells3 hXq
      by_cases hlt : k < mn
      · have hlt' : (k : Int) < mn := by omega
        have hkl : k < l.length := by have := HN.out; omega
        obtain ⟨b, off, rfl, q0, q0', x, m, c9, q1, q2, q3⟩ := (HA.out.carry hbel).at k hkl
        obtain ⟨_, _, e9, _, _, x9, m9, c9', p1, p2, p3⟩ := HA.out.at k hkl
        cases e9
        have hbw : b < w.heap.size := World.block_lt_of_cell? w _ p1
        have ex : x = x9 ∧ m = m9 ∧ c9 = c9' := by
          have := q1.symm.trans (keeps_cell _ _ _ _ p1 hbel)
          injection this with this
          injection this with t1 t2 t3
          exact ⟨t1, t2, t3⟩
        obtain ⟨rfl, rfl, rfl⟩ := ex
        have hni : (k : Int) < n := by omega
        have HX := hide q3
        have HR := hide p2
        have HAK := hide (HAA.out _ (List.getElem_mem hkl))
        clear q2 q3 p1 p2 p3
        obtain ⟨POST, hPOST⟩ : ∃ POST : Bv → World → Prop, POST = fun y wz => KD wr wz ∧ Below w.heap.size w wz ∧ ((oneD dk l[k] = none ∧ y.r = 9) ∨ ∃ d', oneD dk l[k] = some d' ∧ y.r = 0 ∧ Dv wz w.heap.size B (.agg #[.slice y.a1 y.n1 y.c1, .slice y.a2 y.n2 y.c2, .slice y.a3 y.n3 y.c3]) d') := ⟨_, rfl⟩
        have HCALL := hide (show ∀ wx, Below wr.heap.size wr wx → Calls Tryz.prog 110 #[.agg #[.slice X.a1 X.n1 X.c1, .slice X.a2 X.n2 X.c2, .slice X.a3 X.n3 X.c3], .agg #[.bool (l[k]).1, .int .i64 (l[k]).2.1, .slice x m c9]] wx fun e w' => ∃ y : Bv, e = .returned (.tuple #[.agg #[.slice y.a1 y.n1 y.c1, .slice y.a2 y.n2 y.c2, .slice y.a3 y.n3 y.c3], .int .i64 y.r]) ∧ POST y w' ∧ KD wx w' ∧ KD wr w' ∧ Below w.heap.size w w' from fun wx hbx => by
          refine (one_any w B (mny d) dk _ (l[k]).1 (l[k]).2.1 x m c9 (l[k]).2.2 wx (hin.out.2.2.carry hbx) (hbel.trans (hbx.mono hbel.size)) HR.out HX.out (by have := actE_len HAK.out; omega) hin.out.2.1 hc2).mono ?_
          rintro e w' ⟨v', r, rfl, hkd, ⟨f1, f2, f3, f4, f5, f6, f7, f8, f9, rfl⟩, hbb, hcase⟩
          have hkq : KD wr w' := ((KD.refl wr).below hbx).trans hkd
          refine ⟨⟨f1, f2, f3, f4, f5, f6, f7, f8, f9, r⟩, rfl, ?_, hkd, hkq, hbb⟩
          rw [hPOST]
          exact ⟨hkq, hbb, hcase⟩)
        have HPK := hide (show ∀ y p q', POST y p → Below p.heap.size p q' → POST y q' from fun y p q' h hb => by
          rw [hPOST] at h ⊢
          obtain ⟨h1, h2, h3⟩ := h
          refine ⟨h1.below hb, h2.trans (hb.mono h2.size), ?_⟩
          rcases h3 with h3 | ⟨d', h4, h5, h6⟩
          · exact .inl h3
          · exact .inr ⟨d', h4, h5, h6.carry hb⟩)
        have HPG := hide (show ∀ y p q' g cs, wr.heap.size ≤ g → POST y p → p.heap[g]? = some (.cells cs 26 (0, 0)) → p.grownBy q' (some g) → POST y q' from fun y p q' g cs hg h hc hgr => by
          rw [hPOST] at h ⊢
          obtain ⟨h1, h2, h3⟩ := h
          have := hbel.size
          refine ⟨h1.grown hgr (fun j hj => by cases hj; exact .inl hg), h2.grown hgr h2.size (fun j hj => by cases hj; omega), ?_⟩
          rcases h3 with h3 | ⟨d', h4, h5, h6⟩
          · exact .inl h3
          · exact .inr ⟨d', h4, h5, h6.keptT hgr hc⟩)
        have hgXw : gX < wr.heap.size := (Array.getElem?_eq_some_iff.1 hXq).1
        have HNX := hide (show ∀ (g : Nat) (h : wr.heap.size ≤ g), some gX ≠ some g from fun g h e => by
          have : gX = g := by simpa using e
          omega)
        have hbws := hbel.size
        have HNB := hide (show ∀ (g : Nat) (h : wr.heap.size ≤ g), some b ≠ some g from fun g h e => by
          have : b = g := by simpa using e
          omega)
        have HSK := hide (show ∀ wy, KD wr wy → Below w.heap.size w wy → (fun wx => (wx.cell? ⟨gX, 0, none⟩ = some (.slice X.a1 X.n1 X.c1) ∧ wx.cell? ⟨gX, 1, none⟩ = some (.slice X.a2 X.n2 X.c2) ∧ wx.cell? ⟨gX, 2, none⟩ = some (.slice X.a3 X.n3 X.c3)) ∧ (wx.cell? ⟨b, off + k * 3, none⟩ = some (.bool (l[k]).1) ∧ wx.cell? ⟨b, off + k * 3 + 1, none⟩ = some (.int .i64 (l[k]).2.1) ∧ wx.cell? ⟨b, off + k * 3 + 2, none⟩ = some (.slice x m c9))) wy from fun wy h1 h2 => by
          obtain ⟨z0, z1, z2, _⟩ := cells3 (h1.2 _ _ _ hXq)
          obtain ⟨_, _, e9, r0, r0', x8, m8, c8, r1, _, _⟩ := (HA.out.carry h2).at k hkl
          cases e9
          obtain ⟨_, _, e9, _, _, x7, m7, c7, s1, _, _⟩ := HA.out.at k hkl
          cases e9
          have t1 := (keeps_cell _ _ _ _ s1 h2).symm.trans r1
          have t2 := (keeps_cell _ _ _ _ s1 hbel).symm.trans q1
          rw [← t1, t2] at r1
          exact ⟨⟨z0, z1, z2⟩, r0, r0', r1⟩)
        go_wp2
        refine region_cutR (α := Nat × Bv) (F := fun bx a => ((((((((((((a.put (some 57) (.agg #[.slice X.a1 X.n1 X.c1, .slice X.a2 X.n2 X.c2, .slice X.a3 X.n3 X.c3])).put (some 58) (.slice (some ⟨b, off, none⟩) n c)).put (some 59) (.int .i64 k)).put (some 60) (.pointer (some ⟨b, off + k * 3, none⟩))).put (some 61) (.agg #[.bool (l[k]).1, .int .i64 (l[k]).2.1, .slice x m c9])).put (some 62) (.tuple #[.agg #[.slice bx.2.a1 bx.2.n1 bx.2.c1, .slice bx.2.a2 bx.2.n2 bx.2.c2, .slice bx.2.a3 bx.2.n3 bx.2.c3], .int .i64 bx.2.r])).put (some 56) (.tuple #[.agg #[.slice bx.2.a1 bx.2.n1 bx.2.c1, .slice bx.2.a2 bx.2.n2 bx.2.c2, .slice bx.2.a3 bx.2.n3 bx.2.c3], .int .i64 bx.2.r])).put (some 63) (.agg #[.slice bx.2.a1 bx.2.n1 bx.2.c1, .slice bx.2.a2 bx.2.n2 bx.2.c2, .slice bx.2.a3 bx.2.n3 bx.2.c3])).put (some 64) (.int .i64 bx.2.r)).put (some 12) (.pointer (some ⟨bx.1, 0, none⟩))).put none undef).put (some 13) (.int .i64 bx.2.r))) (R := fun bx wz => wz.heap[bx.1]? = some (.cells #[.slice bx.2.a1 bx.2.n1 bx.2.c1, .slice bx.2.a2 bx.2.n2 bx.2.c2, .slice bx.2.a3 bx.2.n3 bx.2.c3] 26 (0, 0)) ∧ wr.heap.size ≤ bx.1 ∧ POST bx.2 wz) ?regqb ?impqb
        case regqb =>
          have hK : Keeps (fun wx => (wx.cell? ⟨gX, 0, none⟩ = some (.slice X.a1 X.n1 X.c1) ∧ wx.cell? ⟨gX, 1, none⟩ = some (.slice X.a2 X.n2 X.c2) ∧ wx.cell? ⟨gX, 2, none⟩ = some (.slice X.a3 X.n3 X.c3)) ∧ (wx.cell? ⟨b, off + k * 3, none⟩ = some (.bool (l[k]).1) ∧ wx.cell? ⟨b, off + k * 3 + 1, none⟩ = some (.int .i64 (l[k]).2.1) ∧ wx.cell? ⟨b, off + k * 3 + 2, none⟩ = some (.slice x m c9))) := ((keeps_cell _ _).and ((keeps_cell _ _).and (keeps_cell _ _))).and ((keeps_cell _ _).and ((keeps_cell _ _).and (keeps_cell _ _)))
          have hS0 : (fun wx => (wx.cell? ⟨gX, 0, none⟩ = some (.slice X.a1 X.n1 X.c1) ∧ wx.cell? ⟨gX, 1, none⟩ = some (.slice X.a2 X.n2 X.c2) ∧ wx.cell? ⟨gX, 2, none⟩ = some (.slice X.a3 X.n3 X.c3)) ∧ (wx.cell? ⟨b, off + k * 3, none⟩ = some (.bool (l[k]).1) ∧ wx.cell? ⟨b, off + k * 3 + 1, none⟩ = some (.int .i64 (l[k]).2.1) ∧ wx.cell? ⟨b, off + k * 3 + 2, none⟩ = some (.slice x m c9))) wr := ⟨⟨hx0, hx1, hx2⟩, ⟨q0, q0', q1⟩⟩
          refine reg_begin hK (by kernel_rfl) hS0 ?_
          intro hS
          have hd0 : Below wr.heap.size wr wr.drew := (Below.refl _ _).drew
          refine reg_take (i := 0) (v := ?qbpv0) rfl (by kernel_rfl) (by kernel_rfl) (by kernel_rfl) (by rfl) ?qbpy0 hS ?qbpr0
          case qbpy0 => (rintro wx ⟨⟨x1, x2, x3⟩, ⟨y1, y2, y3⟩⟩; go_simp; all_goals (with_reducible rfl))
          try simp only [Act.put, List.setIfInBounds_toArray, List.set_cons_zero, List.set_cons_succ]
          refine reg_take (i := 1) (v := ?qbpv1) rfl (by kernel_rfl) (by kernel_rfl) (by kernel_rfl) (by rfl) ?qbpy1 hS ?qbpr1
          case qbpy1 => (rintro wx ⟨⟨x1, x2, x3⟩, ⟨y1, y2, y3⟩⟩; go_simp; all_goals (with_reducible rfl))
          try simp only [Act.put, List.setIfInBounds_toArray, List.set_cons_zero, List.set_cons_succ]
          refine reg_take (i := 2) (v := ?qbpv2) rfl (by kernel_rfl) (by kernel_rfl) (by kernel_rfl) (by rfl) ?qbpy2 hS ?qbpr2
          case qbpy2 => (rintro wx ⟨⟨x1, x2, x3⟩, ⟨y1, y2, y3⟩⟩; go_simp; all_goals (with_reducible rfl))
          try simp only [Act.put, List.setIfInBounds_toArray, List.set_cons_zero, List.set_cons_succ]
          refine reg_take (i := 3) (v := ?qbpv3) rfl (by kernel_rfl) (by kernel_rfl) (by kernel_rfl) (by rfl) ?qbpy3 hS ?qbpr3
          case qbpy3 => (rintro wx ⟨⟨x1, x2, x3⟩, ⟨y1, y2, y3⟩⟩; go_simp; all_goals (with_reducible rfl))
          try simp only [Act.put, List.setIfInBounds_toArray, List.set_cons_zero, List.set_cons_succ]
          refine reg_take (i := 4) (v := ?qbpv4) rfl (by kernel_rfl) (by kernel_rfl) (by kernel_rfl) (by rfl) ?qbpy4 hS ?qbpr4
          case qbpy4 => (rintro wx ⟨⟨x1, x2, x3⟩, ⟨y1, y2, y3⟩⟩; go_simp; all_goals (with_reducible rfl))
          try simp only [Act.put, List.setIfInBounds_toArray, List.set_cons_zero, List.set_cons_succ]
          refine reg_two (i := 5) (j := 9) (by kernel_rfl) ?_ ?_
          · skip
            refine wop_callg (R := fun v wy => ∃ bx : Bv, v = .tuple #[.agg #[.slice bx.a1 bx.n1 bx.c1, .slice bx.a2 bx.n2 bx.c2, .slice bx.a3 bx.n3 bx.c3], .int .i64 bx.r] ∧ POST bx wy ∧ KD (wr.drew) wy ∧ KD wr wy ∧ Below w.heap.size w wy) rfl (by rfl) (by obtain ⟨⟨x1, x2, x3⟩, ⟨y1, y2, y3⟩⟩ := hS; go_simp) ((HCALL.out wr.drew hd0).mono fun e wy ⟨bx, h1, h2⟩ => ⟨_, h1, bx, rfl, h2⟩) ?_
            rintro vv wA ⟨bx, rfl, hPA, hkA, hxA⟩
            have hsA : wr.heap.size ≤ wA.heap.size := hkA.1
            have hSA : (fun wx => (wx.cell? ⟨gX, 0, none⟩ = some (.slice X.a1 X.n1 X.c1) ∧ wx.cell? ⟨gX, 1, none⟩ = some (.slice X.a2 X.n2 X.c2) ∧ wx.cell? ⟨gX, 2, none⟩ = some (.slice X.a3 X.n3 X.c3)) ∧ (wx.cell? ⟨b, off + k * 3, none⟩ = some (.bool (l[k]).1) ∧ wx.cell? ⟨b, off + k * 3 + 1, none⟩ = some (.int .i64 (l[k]).2.1) ∧ wx.cell? ⟨b, off + k * 3 + 2, none⟩ = some (.slice x m c9))) wA := HSK.out _ hxA.1 hxA.2
            refine ⟨hSA, ?_⟩
            clear hS
            have hS := hSA
            try simp only [Act.put, List.setIfInBounds_toArray, List.set_cons_zero, List.set_cons_succ]
            refine reg_take (i := 6) (v := ?qbav6) rfl (by kernel_rfl) (by kernel_rfl) (by kernel_rfl) (by rfl) ?qbay6 hS ?qbar6
            case qbay6 => (rintro wx ⟨⟨x1, x2, x3⟩, ⟨y1, y2, y3⟩⟩; go_simp; all_goals (with_reducible rfl))
            try simp only [Act.put, List.setIfInBounds_toArray, List.set_cons_zero, List.set_cons_succ]
            refine reg_take (i := 7) (v := ?qbav7) rfl (by kernel_rfl) (by kernel_rfl) (by kernel_rfl) (by rfl) ?qbay7 hS ?qbar7
            case qbay7 => (rintro wx ⟨⟨x1, x2, x3⟩, ⟨y1, y2, y3⟩⟩; go_simp; all_goals (with_reducible rfl))
            try simp only [Act.put, List.setIfInBounds_toArray, List.set_cons_zero, List.set_cons_succ]
            refine reg_take (i := 8) (v := ?qbav8) rfl (by kernel_rfl) (by kernel_rfl) (by kernel_rfl) (by rfl) ?qbay8 hS ?qbar8
            case qbay8 => (rintro wx ⟨⟨x1, x2, x3⟩, ⟨y1, y2, y3⟩⟩; go_simp; all_goals (with_reducible rfl))
            try simp only [Act.put, List.setIfInBounds_toArray, List.set_cons_zero, List.set_cons_succ]
            obtain ⟨wB, ewB⟩ : ∃ wB, wA.alloc (.cells #[.slice none 0 0, .slice none 0 0, .slice none 0 0] 26) = wB := ⟨_, rfl⟩
            have hbB : Below wA.heap.size wA wB := by rw [← ewB]; exact (Below.refl _ _).alloc (Nat.le_refl _) _
            have hzB : wB.heap[wA.heap.size]? = some (.cells #[.slice none 0 0, .slice none 0 0, .slice none 0 0] 26 (0, 0)) := by rw [← ewB]; exact heap_alloc_new _ _
            have hSB := hK _ _ hSA hbB
            refine reg_run (i := 9) (v := .pointer (some ⟨wA.heap.size, 0, none⟩)) (w' := wB) rfl (by kernel_rfl) (by rfl) (by rw [← ewB]; go_simp) hSB ?_
            clear hS
            have hS := hSB
            try simp only [Act.put, List.setIfInBounds_toArray, List.set_cons_zero, List.set_cons_succ]
            obtain ⟨wC, ewC, hzC, hgC⟩ := stored3 (.slice bx.a1 bx.n1 bx.c1) (.slice bx.a2 bx.n2 bx.c2) (.slice bx.a3 bx.n3 bx.c3) hzB
            obtain ⟨y1, y2, y3, y4⟩ := cells3 hzB
            have hSC : (fun wx => (wx.cell? ⟨gX, 0, none⟩ = some (.slice X.a1 X.n1 X.c1) ∧ wx.cell? ⟨gX, 1, none⟩ = some (.slice X.a2 X.n2 X.c2) ∧ wx.cell? ⟨gX, 2, none⟩ = some (.slice X.a3 X.n3 X.c3)) ∧ (wx.cell? ⟨b, off + k * 3, none⟩ = some (.bool (l[k]).1) ∧ wx.cell? ⟨b, off + k * 3 + 1, none⟩ = some (.int .i64 (l[k]).2.1) ∧ wx.cell? ⟨b, off + k * 3 + 2, none⟩ = some (.slice x m c9))) wC := by
              obtain ⟨⟨x1, x2, x3⟩, y1, y2, y3⟩ := hSB
              exact ⟨⟨hgC.cell x1 (HNX.out _ hsA), hgC.cell x2 (HNX.out _ hsA), hgC.cell x3 (HNX.out _ hsA)⟩, hgC.cell y1 (HNB.out _ hsA), hgC.cell y2 (HNB.out _ hsA), hgC.cell y3 (HNB.out _ hsA)⟩
            refine reg_unit (i := 10) (w' := wC) rfl (by kernel_rfl) (by rfl) (by rw [← ewC]; go_simp) hSC ?_
            clear hS
            have hS := hSC
            try simp only [Act.put, List.setIfInBounds_toArray, List.set_cons_zero, List.set_cons_succ]
            refine reg_take (i := 11) (v := ?qbbv11) rfl (by kernel_rfl) (by kernel_rfl) (by kernel_rfl) (by rfl) ?qbby11 hS ?qbbr11
            case qbby11 => (rintro wx ⟨⟨x1, x2, x3⟩, ⟨y1, y2, y3⟩⟩; go_simp; all_goals (with_reducible rfl))
            try simp only [Act.put, List.setIfInBounds_toArray, List.set_cons_zero, List.set_cons_succ]
            refine wpAnyH_done (by kernel_rfl) ?_ _
            refine NoPanic.normal ?_
            exact ⟨rfl, (wA.heap.size, bx), by simp only [Act.put, List.setIfInBounds_toArray, List.set_cons_zero, List.set_cons_succ], hzC, hsA, HPG.out _ _ _ _ _ hsA (HPK.out _ _ _ hPA hbB) hzB hgC⟩
          · skip
            obtain ⟨wA, ewA⟩ : ∃ wA, wr.drew.alloc (.cells #[.slice none 0 0, .slice none 0 0, .slice none 0 0] 26) = wA := ⟨_, rfl⟩
            have hbA : Below wr.heap.size wr wA := by rw [← ewA]; exact ((Below.refl _ _).drew).alloc (Nat.le_refl _) _
            have hzA : wA.heap[wr.heap.size]? = some (.cells #[.slice none 0 0, .slice none 0 0, .slice none 0 0] 26 (0, 0)) := by rw [← ewA]; exact heap_alloc_new _ _
            have hSA := hK _ _ hS0 hbA
            refine wop_run (v := .pointer (some ⟨wr.heap.size, 0, none⟩)) (w' := wA) rfl (by rfl) (by rw [← ewA]; go_simp) ⟨hSA, ?_⟩
            clear hS
            have hS := hSA
            try simp only [Act.put, List.setIfInBounds_toArray, List.set_cons_zero, List.set_cons_succ]
            refine reg_callg (i := 5) (R := fun v wy => ∃ bx : Bv, v = .tuple #[.agg #[.slice bx.a1 bx.n1 bx.c1, .slice bx.a2 bx.n2 bx.c2, .slice bx.a3 bx.n3 bx.c3], .int .i64 bx.r] ∧ POST bx wy ∧ KD (wA) wy ∧ KD wr wy ∧ Below w.heap.size w wy) rfl (by kernel_rfl) (by rfl) (by obtain ⟨⟨x1, x2, x3⟩, ⟨y1, y2, y3⟩⟩ := hS; go_simp) ((HCALL.out wA hbA).mono fun e wy ⟨bx, h1, h2⟩ => ⟨_, h1, bx, rfl, h2⟩) ?_
            rintro vv wB ⟨bx, rfl, hPB, hkB, hxB⟩
            have hSB : (fun wx => (wx.cell? ⟨gX, 0, none⟩ = some (.slice X.a1 X.n1 X.c1) ∧ wx.cell? ⟨gX, 1, none⟩ = some (.slice X.a2 X.n2 X.c2) ∧ wx.cell? ⟨gX, 2, none⟩ = some (.slice X.a3 X.n3 X.c3)) ∧ (wx.cell? ⟨b, off + k * 3, none⟩ = some (.bool (l[k]).1) ∧ wx.cell? ⟨b, off + k * 3 + 1, none⟩ = some (.int .i64 (l[k]).2.1) ∧ wx.cell? ⟨b, off + k * 3 + 2, none⟩ = some (.slice x m c9))) wB := HSK.out _ hxB.1 hxB.2
            refine ⟨hSB, ?_⟩
            clear hS
            have hS := hSB
            try simp only [Act.put, List.setIfInBounds_toArray, List.set_cons_zero, List.set_cons_succ]
            refine reg_take (i := 6) (v := ?qbcv6) rfl (by kernel_rfl) (by kernel_rfl) (by kernel_rfl) (by rfl) ?qbcy6 hS ?qbcr6
            case qbcy6 => (rintro wx ⟨⟨x1, x2, x3⟩, ⟨y1, y2, y3⟩⟩; go_simp; all_goals (with_reducible rfl))
            try simp only [Act.put, List.setIfInBounds_toArray, List.set_cons_zero, List.set_cons_succ]
            refine reg_take (i := 7) (v := ?qbcv7) rfl (by kernel_rfl) (by kernel_rfl) (by kernel_rfl) (by rfl) ?qbcy7 hS ?qbcr7
            case qbcy7 => (rintro wx ⟨⟨x1, x2, x3⟩, ⟨y1, y2, y3⟩⟩; go_simp; all_goals (with_reducible rfl))
            try simp only [Act.put, List.setIfInBounds_toArray, List.set_cons_zero, List.set_cons_succ]
            refine reg_take (i := 8) (v := ?qbcv8) rfl (by kernel_rfl) (by kernel_rfl) (by kernel_rfl) (by rfl) ?qbcy8 hS ?qbcr8
            case qbcy8 => (rintro wx ⟨⟨x1, x2, x3⟩, ⟨y1, y2, y3⟩⟩; go_simp; all_goals (with_reducible rfl))
            try simp only [Act.put, List.setIfInBounds_toArray, List.set_cons_zero, List.set_cons_succ]
            have hzB := hkB.2 _ _ _ hzA
            obtain ⟨wC, ewC, hzC, hgC⟩ := stored3 (.slice bx.a1 bx.n1 bx.c1) (.slice bx.a2 bx.n2 bx.c2) (.slice bx.a3 bx.n3 bx.c3) hzB
            obtain ⟨y1, y2, y3, y4⟩ := cells3 hzB
            have hSC : (fun wx => (wx.cell? ⟨gX, 0, none⟩ = some (.slice X.a1 X.n1 X.c1) ∧ wx.cell? ⟨gX, 1, none⟩ = some (.slice X.a2 X.n2 X.c2) ∧ wx.cell? ⟨gX, 2, none⟩ = some (.slice X.a3 X.n3 X.c3)) ∧ (wx.cell? ⟨b, off + k * 3, none⟩ = some (.bool (l[k]).1) ∧ wx.cell? ⟨b, off + k * 3 + 1, none⟩ = some (.int .i64 (l[k]).2.1) ∧ wx.cell? ⟨b, off + k * 3 + 2, none⟩ = some (.slice x m c9))) wC := by
              obtain ⟨⟨x1, x2, x3⟩, y1, y2, y3⟩ := hSB
              exact ⟨⟨hgC.cell x1 (HNX.out _ (Nat.le_refl _)), hgC.cell x2 (HNX.out _ (Nat.le_refl _)), hgC.cell x3 (HNX.out _ (Nat.le_refl _))⟩, hgC.cell y1 (HNB.out _ (Nat.le_refl _)), hgC.cell y2 (HNB.out _ (Nat.le_refl _)), hgC.cell y3 (HNB.out _ (Nat.le_refl _))⟩
            refine reg_unit (i := 10) (w' := wC) rfl (by kernel_rfl) (by rfl) (by rw [← ewC]; go_simp) hSC ?_
            clear hS
            have hS := hSC
            try simp only [Act.put, List.setIfInBounds_toArray, List.set_cons_zero, List.set_cons_succ]
            refine reg_take (i := 11) (v := ?qbdv11) rfl (by kernel_rfl) (by kernel_rfl) (by kernel_rfl) (by rfl) ?qbdy11 hS ?qbdr11
            case qbdy11 => (rintro wx ⟨⟨x1, x2, x3⟩, ⟨y1, y2, y3⟩⟩; go_simp; all_goals (with_reducible rfl))
            try simp only [Act.put, List.setIfInBounds_toArray, List.set_cons_zero, List.set_cons_succ]
            refine wpAnyH_done (by kernel_rfl) ?_ _
            refine NoPanic.normal ?_
            exact ⟨rfl, (wr.heap.size, bx), by simp only [Act.put, List.setIfInBounds_toArray, List.set_cons_zero, List.set_cons_succ], hzC, Nat.le_refl _, HPG.out _ _ _ _ _ (Nat.le_refl _) hPB hzB hgC⟩
        case impqb =>
          rintro ⟨gY, bx⟩ wz ⟨hY, hgY, hP⟩
          dsimp only at hY hgY
          rw [hPOST] at hP
          obtain ⟨hkq, hbz, hcase⟩ := hP
          have hXz := hkq.2 _ _ _ hXq
          have hRz := hkq.2 _ _ _ hRq
          have htk : l.take (k + 1) = l.take k ++ [l[k]] := List.take_succ_eq_append_getElem hkl
          simp only [Act.put, List.setIfInBounds_toArray, List.set_cons_zero, List.set_cons_succ]
          clear HCALL HPK HPG HSK HNX HNB hPOST q0 q0' q1 hx0 hx1 hx2 hx3
          rcases hcase with ⟨eo, hr⟩ | ⟨d', eo, hr, hDv'⟩
          · rw [hr]
            have HE := hide (show doD d l mn = (dz, 9) by
              have e1 : onesD d (l.take (k + 1)) = none := by rw [htk, onesD_snoc, hin.out.1]; exact eo
              have e2 : l.take mn = l.take (k + 1) ++ (l.take mn).drop (k + 1) := take_split l _ _ (by omega)
              rw [HE.out, e2, onesD_none _ _ _ e1])
            clear eo htk hr hY hXz hkq
            obtain ⟨ws, ews, hws, hgs⟩ := stored3 (.slice none 0 0) (.slice none 0 0) (.slice none 0 0) hRz
            obtain ⟨z1, z2, z3, z4⟩ := cells3 hRz
            obtain ⟨q1, q2, q3, q4⟩ := cells3 hws
            have hbs := hbz.grown hgs hbz.size (fun k hk => by cases hk; simp)
            clear hws hgs
            go_wp2
            refine bodyPost_ret (v := .tuple #[.agg #[.slice none 0 0, .slice none 0 0, .slice none 0 0], .int .i64 9]) ?_ rfl ?_
            · simp [results, Tryz.results54, go_sem, *]
            · rw [HE.out]; exact ⟨_, rfl, OwD_zero _ _, hbs⟩
          · rw [hr]
            have HN9 := hide (show onesD d (l.take (k + 1)) = some d' by rw [htk, onesD_snoc, hin.out.1]; exact eo)
            have HF9 := hide (hin.out.2.1.one HAK.out eo).1
            obtain ⟨y0, y1, y2, _⟩ := cells3 hY
            obtain ⟨x0, x1, x2, x3⟩ := cells3 hXz
            obtain ⟨ws, ews, hws, hgs⟩ := stored3 (.slice bx.a1 bx.n1 bx.c1) (.slice bx.a2 bx.n2 bx.c2) (.slice bx.a3 bx.n3 bx.c3) hXz
            have HDs := hide (hDv'.keptT hgs hXz)
            have hbs := hbz.grown hgs hbz.size (fun j hj => by cases hj; omega)
            have hRs := (hgs.block _ (Array.getElem?_eq_some_iff.1 hRz).1 (fun e => absurd (Option.some.inj e) (by omega))).trans hRz
            clear eo htk hr hkq hDv' hgs
            go_wp2
            go_roundw
            case rel => exact ⟨k + 1, d', bx, by omega, by go_num, hws, hRs, ⟨HN9.out, HF9.out, HDs.out⟩, hbs⟩
            case measure => simp [intOf] <;> omega
      · have hlt' : decide ((k : Int) < mn) = false := by simpa using (by omega : ¬ (k : Int) < mn)
        have HE0 := hide (show doD d l mn = (dk, 0) by
          have : k = mn := by omega
          rw [HE.out, ← this, hin.out.1])
        obtain ⟨ws, ews, hws, hgs⟩ := stored3 (.slice X.a1 X.n1 X.c1) (.slice X.a2 X.n2 X.c2) (.slice X.a3 X.n3 X.c3) hRq
        obtain ⟨x1, x2, x3, x4⟩ := cells3 hRq
        obtain ⟨q1, q2, q3, q4⟩ := cells3 hws
        have hbs := hbel.grown hgs hbel.size (fun k hk => by cases hk; simp)
        have HOD := hide (hin.out.2.2.keptT hgs hRq).own
        clear hws hgs hRq hXq
        go_wp2
        refine bodyPost_ret (v := .tuple #[.agg #[.slice X.a1 X.n1 X.c1, .slice X.a2 X.n2 X.c2, .slice X.a3 X.n3 X.c3], .int .i64 0]) ?_ rfl ?_
        · simp [results, Tryz.results54, go_sem, *]
        · rw [HE0.out]; exact ⟨_, rfl, HOD.out, hbs⟩

end Go.Proofs.YtabaomacfijppaaGreat
