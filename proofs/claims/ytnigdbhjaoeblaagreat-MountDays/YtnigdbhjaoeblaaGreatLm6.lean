/-
  What the statement MountDays answers.
-/
import Derived.Test.YtnigdbhjaoeblaaGreatLm5
namespace Go.Proofs.YtnigdbhjaoeblaaGreat
open Go.RowKit
set_option linter.unusedVariables false
set_option linter.unusedSimpArgs false

def Days (w0 wr : World) (p8 : Nat) (z : FsV) (X : Fsd) : Prop := okFs X ∧ X.1.2.2 = [] ∧ RdT wr z X ∧ FsAt wr p8 z ∧ Below w0.heap.size w0 wr
structure Dq7 where
  (a1 : Option Addr) (n1 c1 : Nat) (a2 : Option Addr) (n2 c2 : Nat) (a3 : Option Addr) (n3 c3 : Nat)
theorem min_rng {N mv : Int} {a b : Nat} (h : a = b) (h0 : 0 ≤ N) (hm : (if (a : Int) < N then (a : Int) else N) = mv) : 0 ≤ mv ∧ mv ≤ (b : Int) := by
  subst h
  split at hm <;> omega
theorem days_step {X F : Fsd} (hX : okFs X) (hd : X.1.2.2 = []) (st : St) (hF : F = stepS X st) : okFs F ∧ ∃ L : List (List Fl), TornInv X F L ∧ ∀ (i : Nat) (D : List Fl), L[i]? = some D → D = X.2.2.2 ∨ D = F.2.2.2 := by
  have h := torn_next (TornInv.init hX hd) st hF
  refine ⟨h.ok, _, h, fun i D hi => ?_⟩
  split at hi
  · match i, hi with
    | 0, hi => simp at hi; exact .inl hi.symm
  · match i, hi with
    | 0, hi => simp at hi; exact .inl hi.symm
    | 1, hi => simp at hi; exact .inr hi.symm
theorem days_crash {X F : Fsd} (hX : okFs X) (hd : X.1.2.2 = []) (st : St) (hF : F = stepS X st) {m : Int} (h0 : 0 ≤ m) (h1 : m ≤ F.1.2.2.length) (K : List Bool) :
    ∃ (d : Dk) (g : Nat) (D : List Fl), tornM X F m K = (d, 0) ∧ okFs (d, g, D, D) ∧ openFs d = ((d, g, D, D), 0) ∧ (D = X.2.2.2 ∨ D = F.2.2.2) := by
  obtain ⟨_, L, hT, hL⟩ := days_step hX hd st hF
  rcases hT.crash m K with ⟨hm, _⟩ | ⟨_, _, d, i, D, e, hi, _, _, _, h4, h5⟩
  · omega
  · exact ⟨d, _, D, e, h4, h5, hL i D hi⟩
theorem format_days {n : Int} (h : (formatFs n).2 = 0) : okFs (formatFs n).1 ∧ (formatFs n).1.1.2.2 = [] := by
  by_cases hn : 34 < n ∧ n ≤ 4096
  · obtain ⟨x, e, h1, _⟩ := format_ok hn.1 hn.2
    rw [e]
    exact ⟨h1, rfl⟩
  · exfalso
    unfold formatFs newD at h
    by_cases h1 : n < 1 ∨ 4096 < n
    · rw [if_pos h1] at h
      simp at h
    · rw [if_neg h1] at h
      rw [if_neg (by simp), if_pos (by omega)] at h
      cases h
theorem fails_rdk {w : World} : RdK (w.alloc (.cells #[.bool true, .bool false, .bool true, .bool true] 4)) (.slice (some ⟨w.heap.size, 0, none⟩) 4 4) [true, false, true, true] := .inr ⟨_, 0, 4, rfl, Nat.le_refl _, by unfold maxLen; decide, fun j hj => by
  have hj : j < 4 := hj
  match j, hj with
  | 0, _ => simp
  | 1, _ => simp
  | 2, _ => simp
  | 3, _ => simp⟩

set_option maxHeartbeats 16000000 in
set_option maxRecDepth 100000 in
theorem mountDays_any (B : Int) (a : Option Addr) (n c : Nat) (l : List St) (fa : Option Addr) (fn fc : Nat) (fl : List Int) (w : World) (hl : RdS w (.slice a n c) l) (hn : n = l.length) (hi : RdI w (.slice fa fn fc) fl) (hin : fn = fl.length) :
    Calls Tryz.prog 11 #[.int .i64 B, .slice a n c, .slice fa fn fc] w fun e w' => e = .returned (.bool true) ∧ Below w.heap.size w w' := by
  have HS := hide hl
  have HN := hide hn
  have HI := hide hi
  have HIN := hide hin
  clear hl hn hi hin
  go_enter Tryz.func11, Tryz.ntmps11
  have hcon := alive7_any w
  go_wp2_with fail
  refine hcon.mono ?_
  rintro e w1 ⟨rfl, hbb⟩
  have HB_w1 := hide hbb
  clear hcon hbb
  have hcon := format_fs B w1
  go_wp2_with fail
  refine hcon.mono ?_
  rintro e w2 ⟨v9, rfl, ho, hbb⟩
  have HB_w2 := hide (show Below w.heap.size w w2 from HB_w1.out.trans (hbb.mono HB_w1.out.size))
  clear hcon hbb
  obtain ⟨R, hR⟩ : ∃ R, R = formatFs B := ⟨_, rfl⟩
  have HR := hide hR
  rw [← hR] at ho ⊢
  clear hR
  obtain ⟨xf, e9, hx9, ho9⟩ := ho.bx
  subst e9
  obtain ⟨w3, ew3⟩ : ∃ wq, w2.alloc (.cells xf.cs 33) = wq := ⟨_, rfl⟩
  have hbn : Below w2.heap.size w2 w3 := by rw [← ew3]; exact (Below.refl _ _).alloc (Nat.le_refl _) _
  have HB_w3 := hide (show Below w.heap.size w w3 from HB_w2.out.trans (hbn.mono HB_w2.out.size))
  have HFf_w3 := hide (show FsAt w3 w2.heap.size xf by rw [← ew3]; exact Bq.new _ _ _)
  have HRf_w3 := hide (hx9.carry hbn)
  have HOf_w3 := hide ((ho9.mono HB_w1.out.size).carry hbn)
  unfold FsV.cs at ew3
  unfold FsV.val
  clear ho hx9 ho9 hbn
  by_cases g1 : ¬ R.2 = 0
  · clear HR
    go_wp2
    go_ret
    exact ⟨rfl, by first | exact HB_w3.out | (rw [ew3]; exact HB_w3.out)⟩
  rw [Decidable.not_not] at g1
  have HD0 := hide (format_days (n := B) (by rw [← HR.out]; exact g1))
  rw [← HR.out] at HD0
  rw [g1]
  clear g1 HR
  by_cases g2 : 60 < B
  · have g2' : decide (60 < B) = true := decide_eq_true g2
    go_wp2
    go_ret
    exact ⟨rfl, by first | exact HB_w3.out | (rw [ew3]; exact HB_w3.out)⟩
  have g2' : decide (60 < B) = false := decide_eq_false g2
  clear g2
  have hcon := heavy7_any a n c l w3 (HS.out.carry HB_w3.out) HN.out
  go_wp2_with fail
  try rw [ew3]
  refine hcon.mono ?_
  rintro e w4 ⟨r, rfl, H30, hbb⟩
  have HFf_w4 := hide (HFf_w3.out.carry hbb)
  have HRf_w4 := hide (HRf_w3.out.carry hbb)
  have HOf_w4 := hide (HOf_w3.out.carry hbb)
  have HB_w4 := hide (show Below w.heap.size w w4 from HB_w3.out.trans (hbb.mono HB_w3.out.size))
  clear hcon hbb g2'
  try clear ew3
  cases r with
  | true =>
    go_wp2
    go_ret
    exact ⟨rfl, HB_w4.out⟩
  | false =>
  have HL30 := hide (H30.out rfl)
  clear H30
  obtain ⟨p8, hp8⟩ : ∃ q, q = w2.heap.size := ⟨_, rfl⟩
  have HP8 := hide (show w.heap.size ≤ p8 by rw [hp8]; exact HB_w2.out.size)
  rw [← hp8] at HFf_w4
  have HT0 := hide (show Days w w4 p8 xf R.1 from ⟨HD0.out.1, HD0.out.2, HOf_w4.out.rdt, HFf_w4.out, HB_w4.out⟩)
  go_wp2_with fail
  try rw [← hp8]
  clear hp8
  go_loopw [10] (fun i wr => ∃ (k : Nat) (z : FsV) (X : Fsd), k ≤ n ∧ i = .int .i64 k ∧ Hid (Days w wr p8 z X)) (fun i _ => n - (intOf i).toNat)
  case atStart => exact ⟨0, xf, R.1, Nat.zero_le _, rfl, HT0⟩
  case round =>
    obtain ⟨k, z, X, hk, rfl, HT⟩ := hrel
    have HZ_wr := hide HT.out.2.2.2.1
    have HB_wr := hide HT.out.2.2.2.2
    have hn30 := HL30.out
    by_cases hlt : k < n
    · have hlt' : (k : Int) < n := by omega
      have hkl : k < l.length := by have := HN.out; omega
      obtain ⟨b, off, rfl, c0, q0, q1, q2, q3, a2, c2, q4, q5⟩ := HS.out.at k hkl
      obtain ⟨st, hst⟩ : ∃ st, st = l[k] := ⟨_, rfl⟩
      rw [← hst] at c0 q0 q1 q2 q3 q4 q5
      clear hst
      obtain ⟨nb, hnb⟩ : ∃ nb, nb = st.2.2.2.2.length := ⟨_, rfl⟩
      rw [← hnb] at q4 q5
      clear hnb
      have HC0 := hide c0
      have HQ := hide (show (w.cell? ⟨b, off + k * 5, none⟩ = some (.int .u8 st.1) ∧ w.cell? ⟨b, off + k * 5 + 1, none⟩ = some (.string (bs st.2.1))) ∧ (w.cell? ⟨b, off + k * 5 + 2, none⟩ = some (.string (bs st.2.2.1)) ∧ w.cell? ⟨b, off + k * 5 + 3, none⟩ = some (.int .i64 st.2.2.2.1)) ∧ w.cell? ⟨b, off + k * 5 + 4, none⟩ = some (.slice a2 nb c2) from ⟨⟨q0, q1⟩, ⟨q2, q3⟩, q4⟩)
      have HQ5 := hide q5
      clear c0 q0 q1 q2 q3 q4 q5
      obtain ⟨F, hF⟩ : ∃ F, F = stepS X st := ⟨_, rfl⟩
      have HF := hide hF
      clear hF
      have q0 := keeps_cell _ _ _ _ HQ.out.1.1 HB_wr.out
      have q1 := keeps_cell _ _ _ _ HQ.out.1.2 HB_wr.out
      have q2 := keeps_cell _ _ _ _ HQ.out.2.1.1 HB_wr.out
      have q3 := keeps_cell _ _ _ _ HQ.out.2.1.2 HB_wr.out
      have q4 := keeps_cell _ _ _ _ HQ.out.2.2 HB_wr.out
      obtain ⟨k0, k1, k2, k3, k4, k5⟩ := fs_cells HZ_wr.out
      go_wp2_with fail
      clear q0 q1 q2 q3 q4 k0 k1 k2 k3 k4 k5
      refine region_cut (α := Nat × FsV) (F := fun bx a => ((((((((a.put (some 41) z.val).put (some 42) (.slice (some ⟨b, off, none⟩) n c)).put (some 43) (.int .i64 k)).put (some 44) (.pointer (some ⟨b, off + k * 5, none⟩))).put (some 45) (.agg #[.int .u8 st.1, .string (bs st.2.1), .string (bs st.2.2.1), .int .i64 st.2.2.2.1, .slice a2 nb c2])).put (some 46) bx.2.val).put (some 11) (.pointer (some ⟨bx.1, 0, none⟩))).put none undef)) (R := fun bx wz => FsAt wz bx.1 bx.2 ∧ wr.heap.size ≤ bx.1 ∧ Got wz z X bx.2 F ∧ Below wr.heap.size wr wz) ?regqt ?impqt
      case regqt =>
        have hK : Keeps (fun wx => Below wr.heap.size wr wx) := fun w1 w2 h hb => h.trans (hb.mono h.size)
        have hS0 : (fun wx => Below wr.heap.size wr wx) wr := Below.refl _ _
        refine reg_begin hK (by kernel_rfl) hS0 ?_
        intro hS
        generalize wr.drew = wd at *
        refine reg_take (i := 0) (v := ?qt1v) rfl (by kernel_rfl) (by kernel_rfl) (by kernel_rfl) (by kernel_rfl) ?qt1y hS ?qt1r
        case qt1y => (rintro wx hx; obtain ⟨k0, k1, k2, k3, k4, k5⟩ := fs_cells (HZ_wr.out.carry hx); have hx9 := HB_wr.out.trans (hx.mono HB_wr.out.size); have q0 := keeps_cell _ _ _ _ HQ.out.1.1 hx9; have q1 := keeps_cell _ _ _ _ HQ.out.1.2 hx9; have q2 := keeps_cell _ _ _ _ HQ.out.2.1.1 hx9; have q3 := keeps_cell _ _ _ _ HQ.out.2.1.2 hx9; have q4 := keeps_cell _ _ _ _ HQ.out.2.2 hx9; clear hx9 hx; go_simp; all_goals (with_reducible rfl))
        try simp only [Act.put, List.setIfInBounds_toArray, List.set_cons_zero, List.set_cons_succ]
        refine reg_take (i := 1) (v := ?qt2v) rfl (by kernel_rfl) (by kernel_rfl) (by kernel_rfl) (by kernel_rfl) ?qt2y hS ?qt2r
        case qt2y => (rintro wx hx; obtain ⟨k0, k1, k2, k3, k4, k5⟩ := fs_cells (HZ_wr.out.carry hx); have hx9 := HB_wr.out.trans (hx.mono HB_wr.out.size); have q0 := keeps_cell _ _ _ _ HQ.out.1.1 hx9; have q1 := keeps_cell _ _ _ _ HQ.out.1.2 hx9; have q2 := keeps_cell _ _ _ _ HQ.out.2.1.1 hx9; have q3 := keeps_cell _ _ _ _ HQ.out.2.1.2 hx9; have q4 := keeps_cell _ _ _ _ HQ.out.2.2 hx9; clear hx9 hx; go_simp; all_goals (with_reducible rfl))
        try simp only [Act.put, List.setIfInBounds_toArray, List.set_cons_zero, List.set_cons_succ]
        refine reg_take (i := 2) (v := ?qt3v) rfl (by kernel_rfl) (by kernel_rfl) (by kernel_rfl) (by kernel_rfl) ?qt3y hS ?qt3r
        case qt3y => (rintro wx hx; obtain ⟨k0, k1, k2, k3, k4, k5⟩ := fs_cells (HZ_wr.out.carry hx); have hx9 := HB_wr.out.trans (hx.mono HB_wr.out.size); have q0 := keeps_cell _ _ _ _ HQ.out.1.1 hx9; have q1 := keeps_cell _ _ _ _ HQ.out.1.2 hx9; have q2 := keeps_cell _ _ _ _ HQ.out.2.1.1 hx9; have q3 := keeps_cell _ _ _ _ HQ.out.2.1.2 hx9; have q4 := keeps_cell _ _ _ _ HQ.out.2.2 hx9; clear hx9 hx; go_simp; all_goals (with_reducible rfl))
        try simp only [Act.put, List.setIfInBounds_toArray, List.set_cons_zero, List.set_cons_succ]
        refine reg_take (i := 3) (v := ?qt4v) rfl (by kernel_rfl) (by kernel_rfl) (by kernel_rfl) (by kernel_rfl) ?qt4y hS ?qt4r
        case qt4y => (rintro wx hx; obtain ⟨k0, k1, k2, k3, k4, k5⟩ := fs_cells (HZ_wr.out.carry hx); have hx9 := HB_wr.out.trans (hx.mono HB_wr.out.size); have q0 := keeps_cell _ _ _ _ HQ.out.1.1 hx9; have q1 := keeps_cell _ _ _ _ HQ.out.1.2 hx9; have q2 := keeps_cell _ _ _ _ HQ.out.2.1.1 hx9; have q3 := keeps_cell _ _ _ _ HQ.out.2.1.2 hx9; have q4 := keeps_cell _ _ _ _ HQ.out.2.2 hx9; clear hx9 hx; go_simp; all_goals (with_reducible rfl))
        try simp only [Act.put, List.setIfInBounds_toArray, List.set_cons_zero, List.set_cons_succ]
        refine reg_take (i := 4) (v := ?qt5v) rfl (by kernel_rfl) (by kernel_rfl) (by kernel_rfl) (by kernel_rfl) ?qt5y hS ?qt5r
        case qt5y => (rintro wx hx; obtain ⟨k0, k1, k2, k3, k4, k5⟩ := fs_cells (HZ_wr.out.carry hx); have hx9 := HB_wr.out.trans (hx.mono HB_wr.out.size); have q0 := keeps_cell _ _ _ _ HQ.out.1.1 hx9; have q1 := keeps_cell _ _ _ _ HQ.out.1.2 hx9; have q2 := keeps_cell _ _ _ _ HQ.out.2.1.1 hx9; have q3 := keeps_cell _ _ _ _ HQ.out.2.1.2 hx9; have q4 := keeps_cell _ _ _ _ HQ.out.2.2 hx9; clear hx9 hx; go_simp; all_goals (with_reducible rfl))
        try simp only [Act.put, List.setIfInBounds_toArray, List.set_cons_zero, List.set_cons_succ]
        refine reg_two (i := 5) (j := 6) (by kernel_rfl) ?_ ?_
        · skip
          refine wop_callg (R := fun v wy => ∃ y : FsV, v = y.val ∧ Got wy z X y F ∧ Below wd.heap.size wd wy) rfl (by kernel_rfl) (by go_simp; try rfl) ((HF.out ▸ does_got (st := st) (HT.out.2.2.1.carry hS) (wf_ok HT.out.1) (HQ5.out.carry (HB_wr.out.trans (hS.mono HB_wr.out.size))) HC0.out)) ?_
          rintro v9 wqt6 ⟨y7, rfl, hg7, hbb⟩
          have hSN := hK _ _ hS hbb
          refine ⟨hSN, ?_⟩
          have Hqt7 := hg7
          clear hg7
          clear hS hbb
          have hS := hSN
          clear hSN
          try simp only [Act.put, List.setIfInBounds_toArray, List.set_cons_zero, List.set_cons_succ]
          obtain ⟨wqt8, ewqt8⟩ : ∃ wN, wqt6.alloc (.cells #[.slice none 0 0, .slice none 0 0, .slice none 0 0, .int .u32 0, .slice none 0 0, .slice none 0 0] 33) = wN := ⟨_, rfl⟩
          have hbb : Below wqt6.heap.size wqt6 wqt8 := by rw [← ewqt8]; exact (Below.refl _ _).alloc (Nat.le_refl _) _
          have hSN := hK _ _ hS hbb
          have Hqt9 := Hqt7.carry hbb
          obtain ⟨Aqt10, hAqt10⟩ : ∃ A, A = wqt6.heap.size := ⟨_, rfl⟩
          have Hqt10 : FsB wqt8 Aqt10 := by rw [← ewqt8, hAqt10]; exact FsB.new wqt6
          have Lqt10 : wr.heap.size ≤ Aqt10 := by rw [hAqt10]; exact hS.size
          refine reg_run (i := 6) (v := .pointer (some ⟨Aqt10, 0, none⟩)) (w' := wqt8) rfl (by kernel_rfl) (by kernel_rfl) (by rw [← ewqt8, hAqt10]; go_simp) hSN ?_
          clear hS hbb ewqt8 hAqt10
          have hS := hSN
          clear hSN
          try simp only [Act.put, List.setIfInBounds_toArray, List.set_cons_zero, List.set_cons_succ]
          obtain ⟨⟨d0, e0⟩, ⟨d1, e1⟩, ⟨d2, e2⟩, ⟨d3, e3⟩, ⟨d4, e4⟩, ⟨d5, e5⟩, ff⟩ := Hqt10.cells
          have f0 := ff 0
          have f1 := ff 1
          have f2 := ff 2
          have f3 := ff 3
          have f4 := ff 4
          have f5 := ff 5
          obtain ⟨hat, hgr⟩ := Hqt10.put y7
          obtain ⟨wqt11, ewqt11⟩ : ∃ wN, set6 wqt8 Aqt10 y7 = wN := ⟨_, rfl⟩
          rw [ewqt11] at hat hgr
          have hSN := hS.grown hgr hS.size (by intro k hk; cases hk; exact Lqt10)
          have hgot := Hqt9.kt (Hqt10.kt hgr)
          unfold set6 at ewqt11
          try dsimp only at ewqt11
          clear hgr ff
          refine reg_unit (i := 7) (w' := wqt11) rfl (by kernel_rfl) (by kernel_rfl) (by rw [← ewqt11]; go_simp) hSN ?_
          clear hS ewqt11 e0 e1 e2 e3 e4 e5 f0 f1 f2 f3 f4 f5
          have hS := hSN
          clear hSN
          try simp only [Act.put, List.setIfInBounds_toArray, List.set_cons_zero, List.set_cons_succ]
          refine wpAnyH_done (by kernel_rfl) ?_ _
          refine NoPanic.normal ?_
          exact ⟨rfl, (Aqt10, y7), by simp only [Act.put, List.setIfInBounds_toArray, List.set_cons_zero, List.set_cons_succ], hat, Lqt10, hgot, hS⟩
        · skip
          obtain ⟨wqt12, ewqt12⟩ : ∃ wN, wd.alloc (.cells #[.slice none 0 0, .slice none 0 0, .slice none 0 0, .int .u32 0, .slice none 0 0, .slice none 0 0] 33) = wN := ⟨_, rfl⟩
          have hbb : Below wd.heap.size wd wqt12 := by rw [← ewqt12]; exact (Below.refl _ _).alloc (Nat.le_refl _) _
          have hSN := hK _ _ hS hbb
          obtain ⟨Aqt13, hAqt13⟩ : ∃ A, A = wd.heap.size := ⟨_, rfl⟩
          have Hqt13 : FsB wqt12 Aqt13 := by rw [← ewqt12, hAqt13]; exact FsB.new wd
          have Lqt13 : wr.heap.size ≤ Aqt13 := by rw [hAqt13]; exact hS.size
          refine wop_run (v := .pointer (some ⟨Aqt13, 0, none⟩)) (w' := wqt12) rfl (by kernel_rfl) (by rw [← ewqt12, hAqt13]; go_simp) ⟨hSN, ?_⟩
          clear hS hbb ewqt12 hAqt13
          have hS := hSN
          clear hSN
          try simp only [Act.put, List.setIfInBounds_toArray, List.set_cons_zero, List.set_cons_succ]
          refine reg_callg (i := 5) (R := fun v wy => ∃ y : FsV, v = y.val ∧ Got wy z X y F ∧ Below wqt12.heap.size wqt12 wy) rfl (by kernel_rfl) (by kernel_rfl) (by go_simp; try rfl) ((HF.out ▸ does_got (st := st) (HT.out.2.2.1.carry hS) (wf_ok HT.out.1) (HQ5.out.carry (HB_wr.out.trans (hS.mono HB_wr.out.size))) HC0.out)) ?_
          rintro v9 wqt14 ⟨y7, rfl, hg7, hbb⟩
          have hSN := hK _ _ hS hbb
          refine ⟨hSN, ?_⟩
          have Hqt15 := Hqt13.carry hbb
          have Hqt16 := hg7
          clear hg7
          clear hS hbb
          have hS := hSN
          clear hSN
          try simp only [Act.put, List.setIfInBounds_toArray, List.set_cons_zero, List.set_cons_succ]
          obtain ⟨⟨d0, e0⟩, ⟨d1, e1⟩, ⟨d2, e2⟩, ⟨d3, e3⟩, ⟨d4, e4⟩, ⟨d5, e5⟩, ff⟩ := Hqt15.cells
          have f0 := ff 0
          have f1 := ff 1
          have f2 := ff 2
          have f3 := ff 3
          have f4 := ff 4
          have f5 := ff 5
          obtain ⟨hat, hgr⟩ := Hqt15.put y7
          obtain ⟨wqt17, ewqt17⟩ : ∃ wN, set6 wqt14 Aqt13 y7 = wN := ⟨_, rfl⟩
          rw [ewqt17] at hat hgr
          have hSN := hS.grown hgr hS.size (by intro k hk; cases hk; exact Lqt13)
          have hgot := Hqt16.kt (Hqt15.kt hgr)
          unfold set6 at ewqt17
          try dsimp only at ewqt17
          clear hgr ff
          refine reg_unit (i := 7) (w' := wqt17) rfl (by kernel_rfl) (by kernel_rfl) (by rw [← ewqt17]; go_simp) hSN ?_
          clear hS ewqt17 e0 e1 e2 e3 e4 e5 f0 f1 f2 f3 f4 f5
          have hS := hSN
          clear hSN
          try simp only [Act.put, List.setIfInBounds_toArray, List.set_cons_zero, List.set_cons_succ]
          refine wpAnyH_done (by kernel_rfl) ?_ _
          refine NoPanic.normal ?_
          exact ⟨rfl, (Aqt13, y7), by simp only [Act.put, List.setIfInBounds_toArray, List.set_cons_zero, List.set_cons_succ], hat, Lqt13, hgot, hS⟩
      case impqt =>
      rintro ⟨q, y⟩ wz ⟨hat, hlq, hgot, hbz⟩
      try simp only [Act.put, List.setIfInBounds_toArray, List.set_cons_zero, List.set_cons_succ]
      have HRy_wz := hide (hgot.rd (HT.out.2.2.1.carry hbz))
      have HRz_wz := hide (HT.out.2.2.1.carry hbz)
      have HZ_wz := hide (HZ_wr.out.carry hbz)
      have HY_wz := hide hat
      have HB_wz := hide (show Below w.heap.size w wz from HB_wr.out.trans (hbz.mono HB_wr.out.size))
      have HST := hide (days_step HT.out.1 HT.out.2.1 st HF.out).1
      have HCR := hide (fun (m : Int) (h0 : 0 ≤ m) (h1 : m ≤ F.1.2.2.length) (K : List Bool) => days_crash HT.out.1 HT.out.2.1 st HF.out h0 h1 K)
      have HLQ := hide (show p8 < q ∧ w.heap.size ≤ q by have := HZ_wr.out.lt; have := HP8.out; omega)
      have HOJ := hide HT.out.1
      clear hat hlq hgot hbz HT HZ_wr HB_wr HF HQ HQ5 HC0
      unfold FsV.val
      by_cases hf : k < fn
      · have hf' : (k : Int) < fn := by omega
        have hfl : k < fl.length := by have := HIN.out; omega
        obtain ⟨fb, fo, rfl, q6⟩ := (HI.out.carry HB_wz.out).at6 k hfl
        obtain ⟨N, hN⟩ : ∃ N, N = fl[k] := ⟨_, rfl⟩
        rw [← hN] at q6
        have HQ6 := hide q6
        clear hN q6
        by_cases h0 : ¬ 0 ≤ N
        · have h0' : decide (0 ≤ N) = false := decide_eq_false h0
          have q6 := HQ6.out
          obtain ⟨ky0, ky1, ky2, ky3, ky4, ky5⟩ := fs_cells HY_wz.out
          have hcon := clear_fs y F wz HRy_wz.out.rd (wf_ok HST.out)
          rw [(clear_ok (fsE_of HST.out)).1] at hcon
          go_wp2_with fail
          refine hcon.mono ?_
          rintro e w21 ⟨v9, rfl, ho, hbb⟩
          have HRy_w21 := hide (HRy_wz.out.carry hbb)
          have HRz_w21 := hide (HRz_wz.out.carry hbb)
          have HZ_w21 := hide (HZ_wz.out.carry hbb)
          have HY_w21 := hide (HY_wz.out.carry hbb)
          have HB_w21 := hide (show Below w.heap.size w w21 from HB_wz.out.trans (hbb.mono HB_wz.out.size))
          clear hcon hbb q6 ky0 ky1 ky2 ky3 ky4 ky5
          obtain ⟨x9, e9, hx9, ho9⟩ := ho.bx
          subst e9
          have hst := (ho9.mono HB_wz.out.size).assign (FsB.of HZ_w21.out) HB_w21.out HP8.out
          obtain ⟨⟨d0, e0⟩, ⟨d1, e1⟩, ⟨d2, e2⟩, ⟨d3, e3⟩, ⟨d4, e4⟩, ⟨d5, e5⟩, ff⟩ := (FsB.of HZ_w21.out).cells
          have f0 := ff 0
          have f1 := ff 1
          have f2 := ff 2
          have f3 := ff 3
          have f4 := ff 4
          have f5 := ff 5
          obtain ⟨wc, ewc⟩ : ∃ wq, set6 w21 p8 x9 = wq := ⟨_, rfl⟩
          rw [ewc] at hst
          have HTE := hide (show Days w wc p8 x9 (clearFs F).1 from ⟨(clear_ok (fsE_of HST.out)).2.1, (clear_ok (fsE_of HST.out)).2.2, hst.1.rdt, hst.2.2.1, hst.2.1⟩)
          unfold set6 at ewc
          clear hst ff ho hx9 ho9
          unfold FsV.val
          go_wp2
          try rw [ewc]
          clear ewc e0 e1 e2 e3 e4 e5 f0 f1 f2 f3 f4 f5
          go_roundw
          case rel => exact ⟨k + 1, x9, (clearFs F).1, by omega, rfl, HTE⟩
          case measure => simp only [intOf]; omega
        rw [Decidable.not_not] at h0
        have h0' : decide (0 ≤ N) = true := decide_eq_true h0
        obtain ⟨mv, hmv⟩ : ∃ m : Int, (if (y.n3 : Int) < N then (y.n3 : Int) else N) = m := ⟨_, rfl⟩
        have hmv2 : 0 ≤ mv ∧ mv ≤ (F.1.2.2.length : Nat) := min_rng HRy_wz.out.rd.n3 h0 hmv
        obtain ⟨d, gn, DD, hT, hok, hop, hDD⟩ := HCR.out mv hmv2.1 hmv2.2 [true, false, true, true]
        have HTM := hide hT
        have HOK := hide hok
        have HOP := hide hop
        have HDD := hide hDD
        have HMV := hide hmv
        clear hmv2 hT hok hop hDD HCR hmv
        have q6 := HQ6.out
        obtain ⟨k0, k1, k2, k3, k4, k5⟩ := fs_cells HZ_wz.out
        obtain ⟨j0, j1, j2, j3, j4, j5⟩ := fs_cells HY_wz.out
        go_wp2_with fail
        clear q6 k0 k1 k2 k3 k4 k5 j0 j1 j2 j3 j4 j5 h0' 
        refine region_cut (α := Nat × Dq7 × Nat) (F := fun bx a => (((((((((((((((((((a.put (some 59) z.val).put (some 60) y.val).put (some 61) (.slice (some ⟨fb, fo, none⟩) fn fc)).put (some 62) (.int .i64 k)).put (some 63) (.pointer (some ⟨fb, fo + k, none⟩))).put (some 64) (.int .i64 N)).put (some 65) (.pointer (some ⟨q, 0, none⟩))).put (some 66) (.pointer (some ⟨q, 2, none⟩))).put (some 67) (.slice y.a3 y.n3 y.c3)).put (some 68) (.int .i64 y.n3)).put (some 69) (.int .i64 mv)).put (some 70) (.slice (some ⟨bx.2.2, 0, none⟩) 4 4)).put (some 71) (.tuple #[.agg #[.slice bx.2.1.a1 bx.2.1.n1 bx.2.1.c1, .slice bx.2.1.a2 bx.2.1.n2 bx.2.1.c2, .slice bx.2.1.a3 bx.2.1.n3 bx.2.1.c3], .int .i64 0])).put (some 58) (.tuple #[.agg #[.slice bx.2.1.a1 bx.2.1.n1 bx.2.1.c1, .slice bx.2.1.a2 bx.2.1.n2 bx.2.1.c2, .slice bx.2.1.a3 bx.2.1.n3 bx.2.1.c3], .int .i64 0])).put (some 72) (.agg #[.slice bx.2.1.a1 bx.2.1.n1 bx.2.1.c1, .slice bx.2.1.a2 bx.2.1.n2 bx.2.1.c2, .slice bx.2.1.a3 bx.2.1.n3 bx.2.1.c3])).put (some 73) (.int .i64 0)).put (some 12) (.pointer (some ⟨bx.1, 0, none⟩))).put none undef).put (some 13) (.int .i64 0))) (R := fun bx wv => Bq wv bx.1 27 #[.slice bx.2.1.a1 bx.2.1.n1 bx.2.1.c1, .slice bx.2.1.a2 bx.2.1.n2 bx.2.1.c2, .slice bx.2.1.a3 bx.2.1.n3 bx.2.1.c3] ∧ RdD wv (.agg #[.slice bx.2.1.a1 bx.2.1.n1 bx.2.1.c1, .slice bx.2.1.a2 bx.2.1.n2 bx.2.1.c2, .slice bx.2.1.a3 bx.2.1.n3 bx.2.1.c3]) d ∧ Below wz.heap.size wz wv) ?regqv ?impqv
        case regqv =>
          have hK : Keeps (fun wx => Below wz.heap.size wz wx) := fun w1 w2 h hb => h.trans (hb.mono h.size)
          have hS0 : (fun wx => Below wz.heap.size wz wx) wz := Below.refl _ _
          refine reg_begin hK (by kernel_rfl) hS0 ?_
          intro hS
          generalize wz.drew = wd at *
          refine reg_take (i := 0) (v := ?qv1v) rfl (by kernel_rfl) (by kernel_rfl) (by kernel_rfl) (by kernel_rfl) ?qv1y hS ?qv1r
          case qv1y => (rintro wx hx; obtain ⟨k0, k1, k2, k3, k4, k5⟩ := fs_cells (HZ_wz.out.carry hx); obtain ⟨j0, j1, j2, j3, j4, j5⟩ := fs_cells (HY_wz.out.carry hx); have q6 := keeps_cell _ _ _ _ HQ6.out hx; have hmv := HMV.out; clear hx; go_simp; all_goals (with_reducible rfl))
          try simp only [Act.put, List.setIfInBounds_toArray, List.set_cons_zero, List.set_cons_succ]
          refine reg_take (i := 1) (v := ?qv2v) rfl (by kernel_rfl) (by kernel_rfl) (by kernel_rfl) (by kernel_rfl) ?qv2y hS ?qv2r
          case qv2y => (rintro wx hx; obtain ⟨k0, k1, k2, k3, k4, k5⟩ := fs_cells (HZ_wz.out.carry hx); obtain ⟨j0, j1, j2, j3, j4, j5⟩ := fs_cells (HY_wz.out.carry hx); have q6 := keeps_cell _ _ _ _ HQ6.out hx; have hmv := HMV.out; clear hx; go_simp; all_goals (with_reducible rfl))
          try simp only [Act.put, List.setIfInBounds_toArray, List.set_cons_zero, List.set_cons_succ]
          refine reg_take (i := 2) (v := ?qv3v) rfl (by kernel_rfl) (by kernel_rfl) (by kernel_rfl) (by kernel_rfl) ?qv3y hS ?qv3r
          case qv3y => (rintro wx hx; obtain ⟨k0, k1, k2, k3, k4, k5⟩ := fs_cells (HZ_wz.out.carry hx); obtain ⟨j0, j1, j2, j3, j4, j5⟩ := fs_cells (HY_wz.out.carry hx); have q6 := keeps_cell _ _ _ _ HQ6.out hx; have hmv := HMV.out; clear hx; go_simp; all_goals (with_reducible rfl))
          try simp only [Act.put, List.setIfInBounds_toArray, List.set_cons_zero, List.set_cons_succ]
          refine reg_take (i := 3) (v := ?qv4v) rfl (by kernel_rfl) (by kernel_rfl) (by kernel_rfl) (by kernel_rfl) ?qv4y hS ?qv4r
          case qv4y => (rintro wx hx; obtain ⟨k0, k1, k2, k3, k4, k5⟩ := fs_cells (HZ_wz.out.carry hx); obtain ⟨j0, j1, j2, j3, j4, j5⟩ := fs_cells (HY_wz.out.carry hx); have q6 := keeps_cell _ _ _ _ HQ6.out hx; have hmv := HMV.out; clear hx; go_simp; all_goals (with_reducible rfl))
          try simp only [Act.put, List.setIfInBounds_toArray, List.set_cons_zero, List.set_cons_succ]
          refine reg_take (i := 4) (v := ?qv5v) rfl (by kernel_rfl) (by kernel_rfl) (by kernel_rfl) (by kernel_rfl) ?qv5y hS ?qv5r
          case qv5y => (rintro wx hx; obtain ⟨k0, k1, k2, k3, k4, k5⟩ := fs_cells (HZ_wz.out.carry hx); obtain ⟨j0, j1, j2, j3, j4, j5⟩ := fs_cells (HY_wz.out.carry hx); have q6 := keeps_cell _ _ _ _ HQ6.out hx; have hmv := HMV.out; clear hx; go_simp; all_goals (with_reducible rfl))
          try simp only [Act.put, List.setIfInBounds_toArray, List.set_cons_zero, List.set_cons_succ]
          refine reg_take (i := 5) (v := ?qv6v) rfl (by kernel_rfl) (by kernel_rfl) (by kernel_rfl) (by kernel_rfl) ?qv6y hS ?qv6r
          case qv6y => (rintro wx hx; obtain ⟨k0, k1, k2, k3, k4, k5⟩ := fs_cells (HZ_wz.out.carry hx); obtain ⟨j0, j1, j2, j3, j4, j5⟩ := fs_cells (HY_wz.out.carry hx); have q6 := keeps_cell _ _ _ _ HQ6.out hx; have hmv := HMV.out; clear hx; go_simp; all_goals (with_reducible rfl))
          try simp only [Act.put, List.setIfInBounds_toArray, List.set_cons_zero, List.set_cons_succ]
          refine reg_take (i := 6) (v := ?qv7v) rfl (by kernel_rfl) (by kernel_rfl) (by kernel_rfl) (by kernel_rfl) ?qv7y hS ?qv7r
          case qv7y => (rintro wx hx; obtain ⟨k0, k1, k2, k3, k4, k5⟩ := fs_cells (HZ_wz.out.carry hx); obtain ⟨j0, j1, j2, j3, j4, j5⟩ := fs_cells (HY_wz.out.carry hx); have q6 := keeps_cell _ _ _ _ HQ6.out hx; have hmv := HMV.out; clear hx; go_simp; all_goals (with_reducible rfl))
          try simp only [Act.put, List.setIfInBounds_toArray, List.set_cons_zero, List.set_cons_succ]
          refine reg_take (i := 7) (v := ?qv8v) rfl (by kernel_rfl) (by kernel_rfl) (by kernel_rfl) (by kernel_rfl) ?qv8y hS ?qv8r
          case qv8y => (rintro wx hx; obtain ⟨k0, k1, k2, k3, k4, k5⟩ := fs_cells (HZ_wz.out.carry hx); obtain ⟨j0, j1, j2, j3, j4, j5⟩ := fs_cells (HY_wz.out.carry hx); have q6 := keeps_cell _ _ _ _ HQ6.out hx; have hmv := HMV.out; clear hx; go_simp; all_goals (with_reducible rfl))
          try simp only [Act.put, List.setIfInBounds_toArray, List.set_cons_zero, List.set_cons_succ]
          refine reg_take (i := 8) (v := ?qv9v) rfl (by kernel_rfl) (by kernel_rfl) (by kernel_rfl) (by kernel_rfl) ?qv9y hS ?qv9r
          case qv9y => (rintro wx hx; obtain ⟨k0, k1, k2, k3, k4, k5⟩ := fs_cells (HZ_wz.out.carry hx); obtain ⟨j0, j1, j2, j3, j4, j5⟩ := fs_cells (HY_wz.out.carry hx); have q6 := keeps_cell _ _ _ _ HQ6.out hx; have hmv := HMV.out; clear hx; go_simp; all_goals (with_reducible rfl))
          try simp only [Act.put, List.setIfInBounds_toArray, List.set_cons_zero, List.set_cons_succ]
          refine reg_take (i := 9) (v := ?qv10v) rfl (by kernel_rfl) (by kernel_rfl) (by kernel_rfl) (by kernel_rfl) ?qv10y hS ?qv10r
          case qv10y => (rintro wx hx; obtain ⟨k0, k1, k2, k3, k4, k5⟩ := fs_cells (HZ_wz.out.carry hx); obtain ⟨j0, j1, j2, j3, j4, j5⟩ := fs_cells (HY_wz.out.carry hx); have q6 := keeps_cell _ _ _ _ HQ6.out hx; have hmv := HMV.out; clear hx; go_simp; all_goals (with_reducible rfl))
          try simp only [Act.put, List.setIfInBounds_toArray, List.set_cons_zero, List.set_cons_succ]
          refine reg_take (i := 10) (v := ?qv11v) rfl (by kernel_rfl) (by kernel_rfl) (by kernel_rfl) (by kernel_rfl) ?qv11y hS ?qv11r
          case qv11y => (rintro wx hx; obtain ⟨k0, k1, k2, k3, k4, k5⟩ := fs_cells (HZ_wz.out.carry hx); obtain ⟨j0, j1, j2, j3, j4, j5⟩ := fs_cells (HY_wz.out.carry hx); have q6 := keeps_cell _ _ _ _ HQ6.out hx; have hmv := HMV.out; clear hx; go_simp; all_goals (with_reducible rfl))
          try simp only [Act.put, List.setIfInBounds_toArray, List.set_cons_zero, List.set_cons_succ]
          refine reg_two (i := 11) (j := 16) (by kernel_rfl) ?_ ?_
          · skip
            obtain ⟨wqv12, ewqv12⟩ : ∃ wN, wd.alloc (.cells #[.bool true, .bool false, .bool true, .bool true] 4) = wN := ⟨_, rfl⟩
            have hbb : Below wd.heap.size wd wqv12 := by rw [← ewqv12]; exact (Below.refl _ _).alloc (Nat.le_refl _) _
            have hSN := hK _ _ hS hbb
            obtain ⟨Aqv13, hAqv13⟩ : ∃ A, A = wd.heap.size := ⟨_, rfl⟩
            have Hqv13 : RdK wqv12 (.slice (some ⟨Aqv13, 0, none⟩) 4 4) [true, false, true, true] := by rw [← ewqv12, hAqv13]; exact fails_rdk
            have Lqv13 : wz.heap.size ≤ Aqv13 := by rw [hAqv13]; exact hS.size
            refine wop_run (v := .slice (some ⟨Aqv13, 0, none⟩) 4 4) (w' := wqv12) rfl (by kernel_rfl) (by rw [← ewqv12, hAqv13]; go_simp) ⟨hSN, ?_⟩
            clear hS hbb ewqv12 hAqv13
            have hS := hSN
            clear hSN
            try simp only [Act.put, List.setIfInBounds_toArray, List.set_cons_zero, List.set_cons_succ]
            refine reg_two (i := 12) (j := 16) (by kernel_rfl) ?_ ?_
            · skip
              refine wop_callg (R := fun v wy => ∃ d7 : Dq7, v = .tuple #[.agg #[.slice d7.a1 d7.n1 d7.c1, .slice d7.a2 d7.n2 d7.c2, .slice d7.a3 d7.n3 d7.c3], .int .i64 0] ∧ OwD wy wqv12.heap.size (.agg #[.slice d7.a1 d7.n1 d7.c1, .slice d7.a2 d7.n2 d7.c2, .slice d7.a3 d7.n3 d7.c3]) d ∧ Below wqv12.heap.size wqv12 wy) rfl (by kernel_rfl) (by go_simp; try rfl) ((mcrash_any z y X F mv [true, false, true, true] (some ⟨Aqv13, 0, none⟩) 4 4 wqv12 (HRz_wz.out.carry hS).rd (wf_ok HOJ.out) (HRy_wz.out.carry hS).rd (wf_ok HST.out) Hqv13 rfl).mono fun e wy ⟨v, h1, h2, h3⟩ => by
          rw [HTM.out] at h1 h2
          obtain ⟨a1, c1, a2, c2, a3, c3, ev⟩ := h2.form
          subst ev
          exact ⟨_, h1, ⟨a1, _, c1, a2, _, c2, a3, _, c3⟩, rfl, h2, h3⟩) ?_
              rintro v9 wqv14 ⟨d7, rfl, ho7, hbb⟩
              have hSN := hK _ _ hS hbb
              refine ⟨hSN, ?_⟩
              have Hqv15 := Hqv13.carry hbb
              have Hqv16 := ho7
              clear ho7
              clear hS hbb
              have hS := hSN
              clear hSN
              try simp only [Act.put, List.setIfInBounds_toArray, List.set_cons_zero, List.set_cons_succ]
              refine reg_take (i := 13) (v := ?qv17v) rfl (by kernel_rfl) (by kernel_rfl) (by kernel_rfl) (by kernel_rfl) ?qv17y hS ?qv17r
              case qv17y => (rintro wx hx; obtain ⟨k0, k1, k2, k3, k4, k5⟩ := fs_cells (HZ_wz.out.carry hx); obtain ⟨j0, j1, j2, j3, j4, j5⟩ := fs_cells (HY_wz.out.carry hx); have q6 := keeps_cell _ _ _ _ HQ6.out hx; have hmv := HMV.out; clear hx; go_simp; all_goals (with_reducible rfl))
              try simp only [Act.put, List.setIfInBounds_toArray, List.set_cons_zero, List.set_cons_succ]
              refine reg_take (i := 14) (v := ?qv18v) rfl (by kernel_rfl) (by kernel_rfl) (by kernel_rfl) (by kernel_rfl) ?qv18y hS ?qv18r
              case qv18y => (rintro wx hx; obtain ⟨k0, k1, k2, k3, k4, k5⟩ := fs_cells (HZ_wz.out.carry hx); obtain ⟨j0, j1, j2, j3, j4, j5⟩ := fs_cells (HY_wz.out.carry hx); have q6 := keeps_cell _ _ _ _ HQ6.out hx; have hmv := HMV.out; clear hx; go_simp; all_goals (with_reducible rfl))
              try simp only [Act.put, List.setIfInBounds_toArray, List.set_cons_zero, List.set_cons_succ]
              refine reg_take (i := 15) (v := ?qv19v) rfl (by kernel_rfl) (by kernel_rfl) (by kernel_rfl) (by kernel_rfl) ?qv19y hS ?qv19r
              case qv19y => (rintro wx hx; obtain ⟨k0, k1, k2, k3, k4, k5⟩ := fs_cells (HZ_wz.out.carry hx); obtain ⟨j0, j1, j2, j3, j4, j5⟩ := fs_cells (HY_wz.out.carry hx); have q6 := keeps_cell _ _ _ _ HQ6.out hx; have hmv := HMV.out; clear hx; go_simp; all_goals (with_reducible rfl))
              try simp only [Act.put, List.setIfInBounds_toArray, List.set_cons_zero, List.set_cons_succ]
              obtain ⟨wqv20, ewqv20⟩ : ∃ wN, wqv14.alloc (.cells #[.slice none 0 0, .slice none 0 0, .slice none 0 0] 27) = wN := ⟨_, rfl⟩
              have hbb : Below wqv14.heap.size wqv14 wqv20 := by rw [← ewqv20]; exact (Below.refl _ _).alloc (Nat.le_refl _) _
              have hSN := hK _ _ hS hbb
              have Hqv21 := Hqv15.carry hbb
              have Hqv22 := Hqv16.carry hbb
              obtain ⟨Aqv23, hAqv23⟩ : ∃ A, A = wqv14.heap.size := ⟨_, rfl⟩
              have Hqv23 : DkB wqv20 Aqv23 := by rw [← ewqv20, hAqv23]; exact DkB.new wqv14
              have Lqv23 : wz.heap.size ≤ Aqv23 := by rw [hAqv23]; exact hS.size
              refine reg_run (i := 16) (v := .pointer (some ⟨Aqv23, 0, none⟩)) (w' := wqv20) rfl (by kernel_rfl) (by kernel_rfl) (by rw [← ewqv20, hAqv23]; go_simp) hSN ?_
              clear hS hbb ewqv20 hAqv23
              have hS := hSN
              clear hSN
              try simp only [Act.put, List.setIfInBounds_toArray, List.set_cons_zero, List.set_cons_succ]
              obtain ⟨y0, y1, y2, hq⟩ := Hqv23
              obtain ⟨wqv24, ewqv24, hws, hgs⟩ := stored3 (.slice d7.a1 d7.n1 d7.c1) (.slice d7.a2 d7.n2 d7.c2) (.slice d7.a3 d7.n3 d7.c3) hq
              obtain ⟨c1', c2', c3', c4'⟩ := cells3 hq
              have hSN := hS.grown hgs hS.size (by intro k hk; cases hk; exact Lqv23)
              have hrd := (Hqv22.keptS hgs hq (by decide) (by decide) (by decide)).rd
              have hat : Bq wqv24 Aqv23 27 #[.slice d7.a1 d7.n1 d7.c1, .slice d7.a2 d7.n2 d7.c2, .slice d7.a3 d7.n3 d7.c3] := hws
              clear hgs hq hws
              refine reg_unit (i := 17) (w' := wqv24) rfl (by kernel_rfl) (by kernel_rfl) (by rw [← ewqv24]; go_simp) hSN ?_
              clear hS ewqv24 c1' c2' c3' c4'
              have hS := hSN
              clear hSN
              try simp only [Act.put, List.setIfInBounds_toArray, List.set_cons_zero, List.set_cons_succ]
              refine reg_take (i := 18) (v := ?qv25v) rfl (by kernel_rfl) (by kernel_rfl) (by kernel_rfl) (by kernel_rfl) ?qv25y hS ?qv25r
              case qv25y => (rintro wx hx; obtain ⟨k0, k1, k2, k3, k4, k5⟩ := fs_cells (HZ_wz.out.carry hx); obtain ⟨j0, j1, j2, j3, j4, j5⟩ := fs_cells (HY_wz.out.carry hx); have q6 := keeps_cell _ _ _ _ HQ6.out hx; have hmv := HMV.out; clear hx; go_simp; all_goals (with_reducible rfl))
              try simp only [Act.put, List.setIfInBounds_toArray, List.set_cons_zero, List.set_cons_succ]
              refine wpAnyH_done (by kernel_rfl) ?_ _
              refine NoPanic.normal ?_
              exact ⟨rfl, (Aqv23, d7, Aqv13), by simp only [Act.put, List.setIfInBounds_toArray, List.set_cons_zero, List.set_cons_succ], hat, hrd, hS⟩
            · skip
              obtain ⟨wqv26, ewqv26⟩ : ∃ wN, wqv12.alloc (.cells #[.slice none 0 0, .slice none 0 0, .slice none 0 0] 27) = wN := ⟨_, rfl⟩
              have hbb : Below wqv12.heap.size wqv12 wqv26 := by rw [← ewqv26]; exact (Below.refl _ _).alloc (Nat.le_refl _) _
              have hSN := hK _ _ hS hbb
              have Hqv27 := Hqv13.carry hbb
              obtain ⟨Aqv28, hAqv28⟩ : ∃ A, A = wqv12.heap.size := ⟨_, rfl⟩
              have Hqv28 : DkB wqv26 Aqv28 := by rw [← ewqv26, hAqv28]; exact DkB.new wqv12
              have Lqv28 : wz.heap.size ≤ Aqv28 := by rw [hAqv28]; exact hS.size
              refine wop_run (v := .pointer (some ⟨Aqv28, 0, none⟩)) (w' := wqv26) rfl (by kernel_rfl) (by rw [← ewqv26, hAqv28]; go_simp) ⟨hSN, ?_⟩
              clear hS hbb ewqv26 hAqv28
              have hS := hSN
              clear hSN
              try simp only [Act.put, List.setIfInBounds_toArray, List.set_cons_zero, List.set_cons_succ]
              refine reg_callg (i := 12) (R := fun v wy => ∃ d7 : Dq7, v = .tuple #[.agg #[.slice d7.a1 d7.n1 d7.c1, .slice d7.a2 d7.n2 d7.c2, .slice d7.a3 d7.n3 d7.c3], .int .i64 0] ∧ OwD wy wqv26.heap.size (.agg #[.slice d7.a1 d7.n1 d7.c1, .slice d7.a2 d7.n2 d7.c2, .slice d7.a3 d7.n3 d7.c3]) d ∧ Below wqv26.heap.size wqv26 wy) rfl (by kernel_rfl) (by kernel_rfl) (by go_simp; try rfl) ((mcrash_any z y X F mv [true, false, true, true] (some ⟨Aqv13, 0, none⟩) 4 4 wqv26 (HRz_wz.out.carry hS).rd (wf_ok HOJ.out) (HRy_wz.out.carry hS).rd (wf_ok HST.out) Hqv27 rfl).mono fun e wy ⟨v, h1, h2, h3⟩ => by
          rw [HTM.out] at h1 h2
          obtain ⟨a1, c1, a2, c2, a3, c3, ev⟩ := h2.form
          subst ev
          exact ⟨_, h1, ⟨a1, _, c1, a2, _, c2, a3, _, c3⟩, rfl, h2, h3⟩) ?_
              rintro v9 wqv29 ⟨d7, rfl, ho7, hbb⟩
              have hSN := hK _ _ hS hbb
              refine ⟨hSN, ?_⟩
              have Hqv30 := Hqv27.carry hbb
              have Hqv31 := Hqv28.carry hbb
              have Hqv32 := ho7
              clear ho7
              clear hS hbb
              have hS := hSN
              clear hSN
              try simp only [Act.put, List.setIfInBounds_toArray, List.set_cons_zero, List.set_cons_succ]
              refine reg_take (i := 13) (v := ?qv33v) rfl (by kernel_rfl) (by kernel_rfl) (by kernel_rfl) (by kernel_rfl) ?qv33y hS ?qv33r
              case qv33y => (rintro wx hx; obtain ⟨k0, k1, k2, k3, k4, k5⟩ := fs_cells (HZ_wz.out.carry hx); obtain ⟨j0, j1, j2, j3, j4, j5⟩ := fs_cells (HY_wz.out.carry hx); have q6 := keeps_cell _ _ _ _ HQ6.out hx; have hmv := HMV.out; clear hx; go_simp; all_goals (with_reducible rfl))
              try simp only [Act.put, List.setIfInBounds_toArray, List.set_cons_zero, List.set_cons_succ]
              refine reg_take (i := 14) (v := ?qv34v) rfl (by kernel_rfl) (by kernel_rfl) (by kernel_rfl) (by kernel_rfl) ?qv34y hS ?qv34r
              case qv34y => (rintro wx hx; obtain ⟨k0, k1, k2, k3, k4, k5⟩ := fs_cells (HZ_wz.out.carry hx); obtain ⟨j0, j1, j2, j3, j4, j5⟩ := fs_cells (HY_wz.out.carry hx); have q6 := keeps_cell _ _ _ _ HQ6.out hx; have hmv := HMV.out; clear hx; go_simp; all_goals (with_reducible rfl))
              try simp only [Act.put, List.setIfInBounds_toArray, List.set_cons_zero, List.set_cons_succ]
              refine reg_take (i := 15) (v := ?qv35v) rfl (by kernel_rfl) (by kernel_rfl) (by kernel_rfl) (by kernel_rfl) ?qv35y hS ?qv35r
              case qv35y => (rintro wx hx; obtain ⟨k0, k1, k2, k3, k4, k5⟩ := fs_cells (HZ_wz.out.carry hx); obtain ⟨j0, j1, j2, j3, j4, j5⟩ := fs_cells (HY_wz.out.carry hx); have q6 := keeps_cell _ _ _ _ HQ6.out hx; have hmv := HMV.out; clear hx; go_simp; all_goals (with_reducible rfl))
              try simp only [Act.put, List.setIfInBounds_toArray, List.set_cons_zero, List.set_cons_succ]
              obtain ⟨y0, y1, y2, hq⟩ := Hqv31
              obtain ⟨wqv36, ewqv36, hws, hgs⟩ := stored3 (.slice d7.a1 d7.n1 d7.c1) (.slice d7.a2 d7.n2 d7.c2) (.slice d7.a3 d7.n3 d7.c3) hq
              obtain ⟨c1', c2', c3', c4'⟩ := cells3 hq
              have hSN := hS.grown hgs hS.size (by intro k hk; cases hk; exact Lqv28)
              have hrd := (Hqv32.keptS hgs hq (by decide) (by decide) (by decide)).rd
              have hat : Bq wqv36 Aqv28 27 #[.slice d7.a1 d7.n1 d7.c1, .slice d7.a2 d7.n2 d7.c2, .slice d7.a3 d7.n3 d7.c3] := hws
              clear hgs hq hws
              refine reg_unit (i := 17) (w' := wqv36) rfl (by kernel_rfl) (by kernel_rfl) (by rw [← ewqv36]; go_simp) hSN ?_
              clear hS ewqv36 c1' c2' c3' c4'
              have hS := hSN
              clear hSN
              try simp only [Act.put, List.setIfInBounds_toArray, List.set_cons_zero, List.set_cons_succ]
              refine reg_take (i := 18) (v := ?qv37v) rfl (by kernel_rfl) (by kernel_rfl) (by kernel_rfl) (by kernel_rfl) ?qv37y hS ?qv37r
              case qv37y => (rintro wx hx; obtain ⟨k0, k1, k2, k3, k4, k5⟩ := fs_cells (HZ_wz.out.carry hx); obtain ⟨j0, j1, j2, j3, j4, j5⟩ := fs_cells (HY_wz.out.carry hx); have q6 := keeps_cell _ _ _ _ HQ6.out hx; have hmv := HMV.out; clear hx; go_simp; all_goals (with_reducible rfl))
              try simp only [Act.put, List.setIfInBounds_toArray, List.set_cons_zero, List.set_cons_succ]
              refine wpAnyH_done (by kernel_rfl) ?_ _
              refine NoPanic.normal ?_
              exact ⟨rfl, (Aqv28, d7, Aqv13), by simp only [Act.put, List.setIfInBounds_toArray, List.set_cons_zero, List.set_cons_succ], hat, hrd, hS⟩
          · skip
            obtain ⟨wqv38, ewqv38⟩ : ∃ wN, wd.alloc (.cells #[.slice none 0 0, .slice none 0 0, .slice none 0 0] 27) = wN := ⟨_, rfl⟩
            have hbb : Below wd.heap.size wd wqv38 := by rw [← ewqv38]; exact (Below.refl _ _).alloc (Nat.le_refl _) _
            have hSN := hK _ _ hS hbb
            obtain ⟨Aqv39, hAqv39⟩ : ∃ A, A = wd.heap.size := ⟨_, rfl⟩
            have Hqv39 : DkB wqv38 Aqv39 := by rw [← ewqv38, hAqv39]; exact DkB.new wd
            have Lqv39 : wz.heap.size ≤ Aqv39 := by rw [hAqv39]; exact hS.size
            refine wop_run (v := .pointer (some ⟨Aqv39, 0, none⟩)) (w' := wqv38) rfl (by kernel_rfl) (by rw [← ewqv38, hAqv39]; go_simp) ⟨hSN, ?_⟩
            clear hS hbb ewqv38 hAqv39
            have hS := hSN
            clear hSN
            try simp only [Act.put, List.setIfInBounds_toArray, List.set_cons_zero, List.set_cons_succ]
            obtain ⟨wqv40, ewqv40⟩ : ∃ wN, wqv38.alloc (.cells #[.bool true, .bool false, .bool true, .bool true] 4) = wN := ⟨_, rfl⟩
            have hbb : Below wqv38.heap.size wqv38 wqv40 := by rw [← ewqv40]; exact (Below.refl _ _).alloc (Nat.le_refl _) _
            have hSN := hK _ _ hS hbb
            have Hqv41 := Hqv39.carry hbb
            obtain ⟨Aqv42, hAqv42⟩ : ∃ A, A = wqv38.heap.size := ⟨_, rfl⟩
            have Hqv42 : RdK wqv40 (.slice (some ⟨Aqv42, 0, none⟩) 4 4) [true, false, true, true] := by rw [← ewqv40, hAqv42]; exact fails_rdk
            have Lqv42 : wz.heap.size ≤ Aqv42 := by rw [hAqv42]; exact hS.size
            refine reg_run (i := 11) (v := .slice (some ⟨Aqv42, 0, none⟩) 4 4) (w' := wqv40) rfl (by kernel_rfl) (by kernel_rfl) (by rw [← ewqv40, hAqv42]; go_simp) hSN ?_
            clear hS hbb ewqv40 hAqv42
            have hS := hSN
            clear hSN
            try simp only [Act.put, List.setIfInBounds_toArray, List.set_cons_zero, List.set_cons_succ]
            refine reg_callg (i := 12) (R := fun v wy => ∃ d7 : Dq7, v = .tuple #[.agg #[.slice d7.a1 d7.n1 d7.c1, .slice d7.a2 d7.n2 d7.c2, .slice d7.a3 d7.n3 d7.c3], .int .i64 0] ∧ OwD wy wqv40.heap.size (.agg #[.slice d7.a1 d7.n1 d7.c1, .slice d7.a2 d7.n2 d7.c2, .slice d7.a3 d7.n3 d7.c3]) d ∧ Below wqv40.heap.size wqv40 wy) rfl (by kernel_rfl) (by kernel_rfl) (by go_simp; try rfl) ((mcrash_any z y X F mv [true, false, true, true] (some ⟨Aqv42, 0, none⟩) 4 4 wqv40 (HRz_wz.out.carry hS).rd (wf_ok HOJ.out) (HRy_wz.out.carry hS).rd (wf_ok HST.out) Hqv42 rfl).mono fun e wy ⟨v, h1, h2, h3⟩ => by
          rw [HTM.out] at h1 h2
          obtain ⟨a1, c1, a2, c2, a3, c3, ev⟩ := h2.form
          subst ev
          exact ⟨_, h1, ⟨a1, _, c1, a2, _, c2, a3, _, c3⟩, rfl, h2, h3⟩) ?_
            rintro v9 wqv43 ⟨d7, rfl, ho7, hbb⟩
            have hSN := hK _ _ hS hbb
            refine ⟨hSN, ?_⟩
            have Hqv44 := Hqv41.carry hbb
            have Hqv45 := Hqv42.carry hbb
            have Hqv46 := ho7
            clear ho7
            clear hS hbb
            have hS := hSN
            clear hSN
            try simp only [Act.put, List.setIfInBounds_toArray, List.set_cons_zero, List.set_cons_succ]
            refine reg_take (i := 13) (v := ?qv47v) rfl (by kernel_rfl) (by kernel_rfl) (by kernel_rfl) (by kernel_rfl) ?qv47y hS ?qv47r
            case qv47y => (rintro wx hx; obtain ⟨k0, k1, k2, k3, k4, k5⟩ := fs_cells (HZ_wz.out.carry hx); obtain ⟨j0, j1, j2, j3, j4, j5⟩ := fs_cells (HY_wz.out.carry hx); have q6 := keeps_cell _ _ _ _ HQ6.out hx; have hmv := HMV.out; clear hx; go_simp; all_goals (with_reducible rfl))
            try simp only [Act.put, List.setIfInBounds_toArray, List.set_cons_zero, List.set_cons_succ]
            refine reg_take (i := 14) (v := ?qv48v) rfl (by kernel_rfl) (by kernel_rfl) (by kernel_rfl) (by kernel_rfl) ?qv48y hS ?qv48r
            case qv48y => (rintro wx hx; obtain ⟨k0, k1, k2, k3, k4, k5⟩ := fs_cells (HZ_wz.out.carry hx); obtain ⟨j0, j1, j2, j3, j4, j5⟩ := fs_cells (HY_wz.out.carry hx); have q6 := keeps_cell _ _ _ _ HQ6.out hx; have hmv := HMV.out; clear hx; go_simp; all_goals (with_reducible rfl))
            try simp only [Act.put, List.setIfInBounds_toArray, List.set_cons_zero, List.set_cons_succ]
            refine reg_take (i := 15) (v := ?qv49v) rfl (by kernel_rfl) (by kernel_rfl) (by kernel_rfl) (by kernel_rfl) ?qv49y hS ?qv49r
            case qv49y => (rintro wx hx; obtain ⟨k0, k1, k2, k3, k4, k5⟩ := fs_cells (HZ_wz.out.carry hx); obtain ⟨j0, j1, j2, j3, j4, j5⟩ := fs_cells (HY_wz.out.carry hx); have q6 := keeps_cell _ _ _ _ HQ6.out hx; have hmv := HMV.out; clear hx; go_simp; all_goals (with_reducible rfl))
            try simp only [Act.put, List.setIfInBounds_toArray, List.set_cons_zero, List.set_cons_succ]
            obtain ⟨y0, y1, y2, hq⟩ := Hqv44
            obtain ⟨wqv50, ewqv50, hws, hgs⟩ := stored3 (.slice d7.a1 d7.n1 d7.c1) (.slice d7.a2 d7.n2 d7.c2) (.slice d7.a3 d7.n3 d7.c3) hq
            obtain ⟨c1', c2', c3', c4'⟩ := cells3 hq
            have hSN := hS.grown hgs hS.size (by intro k hk; cases hk; exact Lqv39)
            have hrd := (Hqv46.keptS hgs hq (by decide) (by decide) (by decide)).rd
            have hat : Bq wqv50 Aqv39 27 #[.slice d7.a1 d7.n1 d7.c1, .slice d7.a2 d7.n2 d7.c2, .slice d7.a3 d7.n3 d7.c3] := hws
            clear hgs hq hws
            refine reg_unit (i := 17) (w' := wqv50) rfl (by kernel_rfl) (by kernel_rfl) (by rw [← ewqv50]; go_simp) hSN ?_
            clear hS ewqv50 c1' c2' c3' c4'
            have hS := hSN
            clear hSN
            try simp only [Act.put, List.setIfInBounds_toArray, List.set_cons_zero, List.set_cons_succ]
            refine reg_take (i := 18) (v := ?qv51v) rfl (by kernel_rfl) (by kernel_rfl) (by kernel_rfl) (by kernel_rfl) ?qv51y hS ?qv51r
            case qv51y => (rintro wx hx; obtain ⟨k0, k1, k2, k3, k4, k5⟩ := fs_cells (HZ_wz.out.carry hx); obtain ⟨j0, j1, j2, j3, j4, j5⟩ := fs_cells (HY_wz.out.carry hx); have q6 := keeps_cell _ _ _ _ HQ6.out hx; have hmv := HMV.out; clear hx; go_simp; all_goals (with_reducible rfl))
            try simp only [Act.put, List.setIfInBounds_toArray, List.set_cons_zero, List.set_cons_succ]
            refine wpAnyH_done (by kernel_rfl) ?_ _
            refine NoPanic.normal ?_
            exact ⟨rfl, (Aqv39, d7, Aqv42), by simp only [Act.put, List.setIfInBounds_toArray, List.set_cons_zero, List.set_cons_succ], hat, hrd, hS⟩
        case impqv =>
          rintro ⟨q9, dv, qb⟩ wv ⟨hat, hrd, hbb⟩
          try simp only [Act.put, List.setIfInBounds_toArray, List.set_cons_zero, List.set_cons_succ]
          dsimp only at hat hrd
          have HRy_wv := hide (HRy_wz.out.carry hbb)
          have HRz_wv := hide (HRz_wz.out.carry hbb)
          have HZ_wv := hide (HZ_wz.out.carry hbb)
          have HY_wv := hide (HY_wz.out.carry hbb)
          have HB_wv := hide (show Below w.heap.size w wv from HB_wz.out.trans (hbb.mono HB_wz.out.size))
          have HQd_wv := hide hat
          have HPd_wv := hide hrd
          clear hat hrd hbb HMV HQ6
          obtain ⟨kd0, kd1, kd2⟩ := dk_cells HQd_wv.out
          have hcon := open_any (d := d) wv HPd_wv.out
          rw [HOP.out] at hcon
          go_wp2_with fail
          refine hcon.mono ?_
          rintro e w21 ⟨v9, rfl, ho, hbb⟩
          have HRy_w21 := hide (HRy_wv.out.carry hbb)
          have HRz_w21 := hide (HRz_wv.out.carry hbb)
          have HZ_w21 := hide (HZ_wv.out.carry hbb)
          have HY_w21 := hide (HY_wv.out.carry hbb)
          have HQd_w21 := hide (HQd_wv.out.carry hbb)
          have HPd_w21 := hide (HPd_wv.out.carry hbb)
          have HB_w21 := hide (show Below w.heap.size w w21 from HB_wv.out.trans (hbb.mono HB_wv.out.size))
          clear hcon hbb kd0 kd1 kd2
          clear HQd_w21
          clear HPd_w21
          have HBO := hide HB_wv.out.size
          obtain ⟨xo, e9, hx9, ho9⟩ := ho.bx
          subst e9
          obtain ⟨w22, ew22⟩ : ∃ wq, w21.alloc (.cells xo.cs 33) = wq := ⟨_, rfl⟩
          have hbn : Below w21.heap.size w21 w22 := by rw [← ew22]; exact (Below.refl _ _).alloc (Nat.le_refl _) _
          have HRy_w22 := hide (HRy_w21.out.carry hbn)
          have HRz_w22 := hide (HRz_w21.out.carry hbn)
          have HZ_w22 := hide (HZ_w21.out.carry hbn)
          have HY_w22 := hide (HY_w21.out.carry hbn)
          have HB_w22 := hide (show Below w.heap.size w w22 from HB_w21.out.trans (hbn.mono HB_w21.out.size))
          have HFo_w22 := hide (show FsAt w22 w21.heap.size xo by rw [← ew22]; exact Bq.new _ _ _)
          have HRo_w22 := hide (hx9.carry hbn)
          have HOo_w22 := hide ((ho9.mono (Nat.le_refl _)).carry hbn)
          unfold FsV.cs at ew22
          unfold FsV.val
          clear ho hx9 ho9 hbn
          obtain ⟨ko0, ko1, ko2, ko3, ko4, ko5⟩ := fs_cells HFo_w22.out
          obtain ⟨kz0, kz1, kz2, kz3, kz4, kz5⟩ := fs_cells HZ_w22.out
          have hcon := same_ref _ _ _ DD _ _ _ X.2.2.2 w22 HRo_w22.out.fl HRo_w22.out.n4 HRz_w22.out.rd.kl HRz_w22.out.rd.n5
          go_wp2_with fail
          try rw [ew22]
          refine hcon.mono ?_
          rintro e w23 ⟨rfl, hbb⟩
          have HRy_w23 := hide (HRy_w22.out.carry hbb)
          have HRz_w23 := hide (HRz_w22.out.carry hbb)
          have HZ_w23 := hide (HZ_w22.out.carry hbb)
          have HY_w23 := hide (HY_w22.out.carry hbb)
          have HFo_w23 := hide (HFo_w22.out.carry hbb)
          have HRo_w23 := hide (HRo_w22.out.carry hbb)
          have HOo_w23 := hide (HOo_w22.out.carry hbb)
          have HB_w23 := hide (show Below w.heap.size w w23 from HB_w22.out.trans (hbb.mono HB_w22.out.size))
          clear hcon hbb ko0 ko1 ko2 ko3 ko4 ko5 kz0 kz1 kz2 kz3 kz4 kz5
          try clear ew22
          by_cases hDX : DD = X.2.2.2
          · rw [decide_eq_true hDX]
            clear hDX
            obtain ⟨ko0, ko1, ko2, ko3, ko4, ko5⟩ := fs_cells HFo_w23.out
            obtain ⟨⟨d0, e0⟩, ⟨d1, e1⟩, ⟨d2, e2⟩, ⟨d3, e3⟩, ⟨d4, e4⟩, ⟨d5, e5⟩, ff⟩ := (FsB.of HY_w23.out).cells
            have f0 := ff 0
            have f1 := ff 1
            have f2 := ff 2
            have f3 := ff 3
            have f4 := ff 4
            have f5 := ff 5
            obtain ⟨hat, hgr⟩ := (FsB.of HY_w23.out).put xo
            have hkt := (FsB.of HY_w23.out).kt hgr
            obtain ⟨wu, ewu⟩ : ∃ wq, set6 w23 q xo = wq := ⟨_, rfl⟩
            rw [ewu] at hat hgr hkt
            have HY_wu := hide hat
            have HRy_wu := hide (HOo_w23.out.rdt.kt hkt)
            have HZ_wu := hide (HZ_w23.out.grown hgr (by have := HLQ.out; omega))
            have HB_wu := hide (HB_w23.out.grown hgr HB_w23.out.size (by intro k hk; cases hk; exact HLQ.out.2))
            unfold set6 at ewu
            clear hat hgr hkt ff
            obtain ⟨ky0, ky1, ky2, ky3, ky4, ky5⟩ := fs_cells HY_wu.out
            have hcon := clear_fs xo (d, gn, DD, DD) wu HRy_wu.out.rd (wf_ok HOK.out)
            rw [(clear_ok (fsE_of HOK.out)).1] at hcon
            go_wp2_with fail
            try rw [ewu]
            refine hcon.mono ?_
            rintro e w24 ⟨v9, rfl, ho, hbb⟩
            have HY_w24 := hide (HY_wu.out.carry hbb)
            have HRy_w24 := hide (HRy_wu.out.carry hbb)
            have HZ_w24 := hide (HZ_wu.out.carry hbb)
            have HB_w24 := hide (show Below w.heap.size w w24 from HB_wu.out.trans (hbb.mono HB_wu.out.size))
            clear hcon hbb ko0 ko1 ko2 ko3 ko4 ko5 e0 e1 e2 e3 e4 e5 f0 f1 f2 f3 f4 f5 ky0 ky1 ky2 ky3 ky4 ky5
            try clear ewu
            obtain ⟨x9, e9, hx9, ho9⟩ := ho.bx
            subst e9
            have hst := (ho9.mono HB_wu.out.size).assign (FsB.of HZ_w24.out) HB_w24.out HP8.out
            obtain ⟨⟨d0, e0⟩, ⟨d1, e1⟩, ⟨d2, e2⟩, ⟨d3, e3⟩, ⟨d4, e4⟩, ⟨d5, e5⟩, ff⟩ := (FsB.of HZ_w24.out).cells
            have f0 := ff 0
            have f1 := ff 1
            have f2 := ff 2
            have f3 := ff 3
            have f4 := ff 4
            have f5 := ff 5
            obtain ⟨wc, ewc⟩ : ∃ wq, set6 w24 p8 x9 = wq := ⟨_, rfl⟩
            rw [ewc] at hst
            have HTE := hide (show Days w wc p8 x9 (clearFs (d, gn, DD, DD)).1 from ⟨(clear_ok (fsE_of HOK.out)).2.1, (clear_ok (fsE_of HOK.out)).2.2, hst.1.rdt, hst.2.2.1, hst.2.1⟩)
            unfold set6 at ewc
            clear hst ff ho hx9 ho9
            unfold FsV.val
            go_wp2
            try rw [ewc]
            clear ewc e0 e1 e2 e3 e4 e5 f0 f1 f2 f3 f4 f5
            go_roundw
            case rel => exact ⟨k + 1, x9, (clearFs (d, gn, DD, DD)).1, by omega, rfl, HTE⟩
            case measure => simp only [intOf]; omega
          rw [decide_eq_false hDX]
          have hDF : DD = F.2.2.2 := by rcases HDD.out with h | h; exact absurd h hDX; exact h
          clear hDX
          obtain ⟨ko0, ko1, ko2, ko3, ko4, ko5⟩ := fs_cells HFo_w23.out
          obtain ⟨ky0, ky1, ky2, ky3, ky4, ky5⟩ := fs_cells HY_w23.out
          have hcon := same_ref _ _ _ DD _ _ _ F.2.2.2 w23 HRo_w23.out.fl HRo_w23.out.n4 HRy_w23.out.rd.kl HRy_w23.out.rd.n5
          rw [decide_eq_true hDF] at hcon
          go_wp2_with fail
          refine hcon.mono ?_
          rintro e w24 ⟨rfl, hbb⟩
          have HRy_w24 := hide (HRy_w23.out.carry hbb)
          have HRz_w24 := hide (HRz_w23.out.carry hbb)
          have HZ_w24 := hide (HZ_w23.out.carry hbb)
          have HY_w24 := hide (HY_w23.out.carry hbb)
          have HFo_w24 := hide (HFo_w23.out.carry hbb)
          have HRo_w24 := hide (HRo_w23.out.carry hbb)
          have HOo_w24 := hide (HOo_w23.out.carry hbb)
          have HB_w24 := hide (show Below w.heap.size w w24 from HB_w23.out.trans (hbb.mono HB_w23.out.size))
          clear hcon hbb ko0 ko1 ko2 ko3 ko4 ko5 ky0 ky1 ky2 ky3 ky4 ky5
          clear hDF
          obtain ⟨ko0, ko1, ko2, ko3, ko4, ko5⟩ := fs_cells HFo_w24.out
          obtain ⟨⟨d0, e0⟩, ⟨d1, e1⟩, ⟨d2, e2⟩, ⟨d3, e3⟩, ⟨d4, e4⟩, ⟨d5, e5⟩, ff⟩ := (FsB.of HY_w24.out).cells
          have f0 := ff 0
          have f1 := ff 1
          have f2 := ff 2
          have f3 := ff 3
          have f4 := ff 4
          have f5 := ff 5
          obtain ⟨hat, hgr⟩ := (FsB.of HY_w24.out).put xo
          have hkt := (FsB.of HY_w24.out).kt hgr
          obtain ⟨wu, ewu⟩ : ∃ wq, set6 w24 q xo = wq := ⟨_, rfl⟩
          rw [ewu] at hat hgr hkt
          have HY_wu := hide hat
          have HRy_wu := hide (HOo_w24.out.rdt.kt hkt)
          have HZ_wu := hide (HZ_w24.out.grown hgr (by have := HLQ.out; omega))
          have HB_wu := hide (HB_w24.out.grown hgr HB_w24.out.size (by intro k hk; cases hk; exact HLQ.out.2))
          unfold set6 at ewu
          clear hat hgr hkt ff
          obtain ⟨ky0, ky1, ky2, ky3, ky4, ky5⟩ := fs_cells HY_wu.out
          have hcon := clear_fs xo (d, gn, DD, DD) wu HRy_wu.out.rd (wf_ok HOK.out)
          rw [(clear_ok (fsE_of HOK.out)).1] at hcon
          go_wp2_with fail
          try rw [ewu]
          refine hcon.mono ?_
          rintro e w25 ⟨v9, rfl, ho, hbb⟩
          have HY_w25 := hide (HY_wu.out.carry hbb)
          have HRy_w25 := hide (HRy_wu.out.carry hbb)
          have HZ_w25 := hide (HZ_wu.out.carry hbb)
          have HB_w25 := hide (show Below w.heap.size w w25 from HB_wu.out.trans (hbb.mono HB_wu.out.size))
          clear hcon hbb ko0 ko1 ko2 ko3 ko4 ko5 e0 e1 e2 e3 e4 e5 f0 f1 f2 f3 f4 f5 ky0 ky1 ky2 ky3 ky4 ky5
          try clear ewu
          obtain ⟨x9, e9, hx9, ho9⟩ := ho.bx
          subst e9
          have hst := (ho9.mono HB_wu.out.size).assign (FsB.of HZ_w25.out) HB_w25.out HP8.out
          obtain ⟨⟨d0, e0⟩, ⟨d1, e1⟩, ⟨d2, e2⟩, ⟨d3, e3⟩, ⟨d4, e4⟩, ⟨d5, e5⟩, ff⟩ := (FsB.of HZ_w25.out).cells
          have f0 := ff 0
          have f1 := ff 1
          have f2 := ff 2
          have f3 := ff 3
          have f4 := ff 4
          have f5 := ff 5
          obtain ⟨wc, ewc⟩ : ∃ wq, set6 w25 p8 x9 = wq := ⟨_, rfl⟩
          rw [ewc] at hst
          have HTE := hide (show Days w wc p8 x9 (clearFs (d, gn, DD, DD)).1 from ⟨(clear_ok (fsE_of HOK.out)).2.1, (clear_ok (fsE_of HOK.out)).2.2, hst.1.rdt, hst.2.2.1, hst.2.1⟩)
          unfold set6 at ewc
          clear hst ff ho hx9 ho9
          unfold FsV.val
          go_wp2
          try rw [ewc]
          clear ewc e0 e1 e2 e3 e4 e5 f0 f1 f2 f3 f4 f5
          go_roundw
          case rel => exact ⟨k + 1, x9, (clearFs (d, gn, DD, DD)).1, by omega, rfl, HTE⟩
          case measure => simp only [intOf]; omega
      · have hf' : decide ((k : Int) < fn) = false := decide_eq_false (by omega)
        obtain ⟨ky0, ky1, ky2, ky3, ky4, ky5⟩ := fs_cells HY_wz.out
        have hcon := clear_fs y F wz HRy_wz.out.rd (wf_ok HST.out)
        rw [(clear_ok (fsE_of HST.out)).1] at hcon
        go_wp2_with fail
        refine hcon.mono ?_
        rintro e w61 ⟨v9, rfl, ho, hbb⟩
        have HRy_w61 := hide (HRy_wz.out.carry hbb)
        have HRz_w61 := hide (HRz_wz.out.carry hbb)
        have HZ_w61 := hide (HZ_wz.out.carry hbb)
        have HY_w61 := hide (HY_wz.out.carry hbb)
        have HB_w61 := hide (show Below w.heap.size w w61 from HB_wz.out.trans (hbb.mono HB_wz.out.size))
        clear hcon hbb ky0 ky1 ky2 ky3 ky4 ky5
        obtain ⟨x9, e9, hx9, ho9⟩ := ho.bx
        subst e9
        have hst := (ho9.mono HB_wz.out.size).assign (FsB.of HZ_w61.out) HB_w61.out HP8.out
        obtain ⟨⟨d0, e0⟩, ⟨d1, e1⟩, ⟨d2, e2⟩, ⟨d3, e3⟩, ⟨d4, e4⟩, ⟨d5, e5⟩, ff⟩ := (FsB.of HZ_w61.out).cells
        have f0 := ff 0
        have f1 := ff 1
        have f2 := ff 2
        have f3 := ff 3
        have f4 := ff 4
        have f5 := ff 5
        obtain ⟨wc, ewc⟩ : ∃ wq, set6 w61 p8 x9 = wq := ⟨_, rfl⟩
        rw [ewc] at hst
        have HTE := hide (show Days w wc p8 x9 (clearFs F).1 from ⟨(clear_ok (fsE_of HST.out)).2.1, (clear_ok (fsE_of HST.out)).2.2, hst.1.rdt, hst.2.2.1, hst.2.1⟩)
        unfold set6 at ewc
        clear hst ff ho hx9 ho9
        unfold FsV.val
        go_wp2
        try rw [ewc]
        clear ewc e0 e1 e2 e3 e4 e5 f0 f1 f2 f3 f4 f5
        go_roundw
        case rel => exact ⟨k + 1, x9, (clearFs F).1, by omega, rfl, HTE⟩
        case measure => simp only [intOf]; omega
    · have hd : decide ((k : Int) < n) = false := decide_eq_false (by omega)
      go_wp2
      go_ret
      exact ⟨rfl, HB_wr.out⟩

end Go.Proofs.YtnigdbhjaoeblaaGreat
