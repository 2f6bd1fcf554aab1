/-
  SameTexts of the document's side; Create of layer 6.
-/
import Derived.Test.YtlibnefibeikcaaGreatLm5
import Derived.Test.YtlibnefibeikcaaGreatLm3
import Derived.Test.YtlibnefibeikcaaGreatFsFn5
import Derived.Test.YtlibnefibeikcaaGreatFiRef8
import Derived.Test.YtlibnefibeikcaaGreatGro
namespace Go.Proofs.YtlibnefibeikcaaGreat
open Go.RowKit
set_option linter.unusedVariables false
set_option linter.unusedSimpArgs false

set_option maxHeartbeats 4000000 in
set_option maxRecDepth 100000 in
theorem rtaken6_any (x : FsV) (f : Fsd) (w : World) (h : RdX w x f) (hw : WfX f) :
    Calls Tryz.prog 51 #[x.val] w fun e w' => ∃ v, e = .returned v ∧ OwE w' w.heap.size v (usedFs f) ∧ Below w.heap.size w w' := by
  have HW := hide hw
  have HX := hide h
  clear hw h
  obtain ⟨w1, ew⟩ : ∃ w1, w.alloc (.cells x.cs 32) = w1 := ⟨_, rfl⟩
  have hb1 : Below w.heap.size w w1 := by rw [← ew]; exact (Below.refl _ _).alloc (Nat.le_refl _) _
  have HFf_w1 := hide (show FsAt w1 w.heap.size x by rw [← ew]; exact Bq.new _ _ _)
  have HB_w1 := hide hb1
  clear hb1
  unfold FsV.val
  unfold FsV.cs at ew
  go_enter Tryz.func51, Tryz.ntmps51
  obtain ⟨kf0, kf1, kf2, kf3, kf4, kf5⟩ := fs_cells HFf_w1.out
  have hcon := rUsed_any _ _ _ f.2.2.1 w1 (HX.out.fl.carry HB_w1.out) HX.out.n4 HW.out.fl
  go_wp2_with fail
  try rw [ew]
  refine hcon.mono ?_
  rintro e w2 ⟨v2, rfl, ho2, hbb⟩
  have HFf_w2 := hide (HFf_w1.out.carry hbb)
  have HB_w2 := hide (show Below w.heap.size w w2 from HB_w1.out.trans (hbb.mono HB_w1.out.size))
  clear hcon hbb kf0 kf1 kf2 kf3 kf4 kf5
  try clear ew
  obtain ⟨m2, hm2⟩ : ∃ m2, m2 = (usedL f.2.2.1).length := ⟨_, rfl⟩
  obtain ⟨y2, z2, e2⟩ : ∃ a c, v2 = .slice a m2 c := by rw [hm2]; exact ho2.form
  subst e2
  have HO_w2 := hide (ho2.mono HB_w1.out.size)
  have HM2 := hide hm2
  clear ho2 hm2
  obtain ⟨kf0, kf1, kf2, kf3, kf4, kf5⟩ := fs_cells HFf_w2.out
  have hcon := rUsed_any _ _ _ f.2.2.2 w2 (HX.out.kl.carry HB_w2.out) HX.out.n5 HW.out.kl
  go_wp2_with fail
  refine hcon.mono ?_
  rintro e w3 ⟨v3, rfl, ho3, hbb⟩
  have HFf_w3 := hide (HFf_w2.out.carry hbb)
  have HO_w3 := hide (HO_w2.out.carry hbb)
  have HB_w3 := hide (show Below w.heap.size w w3 from HB_w2.out.trans (hbb.mono HB_w2.out.size))
  clear hcon hbb kf0 kf1 kf2 kf3 kf4 kf5
  obtain ⟨m3, hm3⟩ : ∃ m3, m3 = (usedL f.2.2.2).length := ⟨_, rfl⟩
  obtain ⟨y3, z3, e3⟩ : ∃ a c, v3 = .slice a m3 c := by rw [hm3]; exact ho3.form
  subst e3
  obtain ⟨g9, cc, w9, hrun, ho9, hb9⟩ := app_exN HO_w3.out HB_w3.out.size ho3.rd hm3 (by have := usedL_len f.2.2.1; have := usedL_len f.2.2.2; omega)
  have HO9 := hide (show OwE w9 w.heap.size _ (usedFs f) from ho9)
  have HB9 := hide (HB_w3.out.trans hb9)
  clear ho9 hb9 ho3 hm3
  generalize (usedL f.2.2.1 ++ usedL f.2.2.2).length = gl at *
  go_wp2_with (at_builtin; refine wpList_runappE rfl (.tmp 19) (.tmp 20) 92 rfl rfl rfl rfl hrun ?_)
  go_ret
  exact ⟨_, rfl, HO9.out, HB9.out⟩

set_option maxHeartbeats 4000000 in
set_option maxRecDepth 100000 in
theorem rnames6_any (x : FsV) (f : Fsd) (w : World) (h : RdX w x f) (hw : WfX f) :
    Calls Tryz.prog 33 #[x.val] w fun e w' => ∃ v, e = .returned (.tuple #[v, .int .i64 (fsE f)]) ∧ OwT w' w.heap.size v (namesL f) ∧ Below w.heap.size w w' := by
  have HW := hide hw
  have HX := hide h
  clear hw h
  obtain ⟨w1, ew⟩ : ∃ w1, w.alloc (.cells x.cs 32) = w1 := ⟨_, rfl⟩
  have hb1 : Below w.heap.size w w1 := by rw [← ew]; exact (Below.refl _ _).alloc (Nat.le_refl _) _
  have HFf_w1 := hide (show FsAt w1 w.heap.size x by rw [← ew]; exact Bq.new _ _ _)
  have HB_w1 := hide hb1
  clear hb1
  unfold FsV.val
  unfold FsV.cs at ew
  go_enter Tryz.func33, Tryz.ntmps33
  obtain ⟨kf0, kf1, kf2, kf3, kf4, kf5⟩ := fs_cells HFf_w1.out
  have hcon := rcheck6_any x f w1 (HX.out.carry HB_w1.out) HW.out
  go_wp2_with fail
  try rw [ew]
  refine hcon.mono ?_
  rintro e w2 ⟨rfl, hbb⟩
  have HFf_w2 := hide (HFf_w1.out.carry hbb)
  have HB_w2 := hide (show Below w.heap.size w w2 from HB_w1.out.trans (hbb.mono HB_w1.out.size))
  clear hcon hbb kf0 kf1 kf2 kf3 kf4 kf5
  try clear ew
  rcases (fsE_cases f).symm with ⟨_, g1⟩ | ⟨_, g1⟩
  · have HG := hide g1
    have HE := hide (show namesL f = [] by unfold namesL; rw [if_pos (by rw [g1]; decide)])
    rw [g1]
    clear g1
    go_wp2
    go_ret2
    rw [HE.out, HG.out]
    exact ⟨_, rfl, OwT.nil _ _, HB_w2.out⟩
  have HG := hide g1
  have HE := hide (show namesL f = f.2.2.1.map (·.1) by unfold namesL; rw [if_neg (by rw [g1]; decide)])
  have hm : x.n4 ≤ 1000 := by rw [HX.out.n4]; exact (small_ok g1).1.1
  rw [g1]
  clear g1
  go_wp2_with fail
  go_loopw [6, 5] (fun i v wr => ∃ k : Nat, k ≤ x.n4 ∧ i = .int .i64 k ∧ Hid (OwT wr (w.heap.size + 1) v ((f.2.2.1.take k).map (·.1))) ∧ Hid (FsAt wr w.heap.size x) ∧ Hid (Below w.heap.size w wr)) (fun i _ _ => x.n4 - (intOf i).toNat)
  case atStart => exact ⟨0, Nat.zero_le _, rfl, hide (by simpa using OwT.nil _ _), HFf_w2, HB_w2⟩
  case round =>
    obtain ⟨k, hk, rfl, hown, hat, hbel⟩ := hrel
    obtain ⟨k0, k1, k2, k3, k4, k5⟩ := fs_cells hat.out
    by_cases hlt : k < x.n4
    · have hlt' : (k : Int) < x.n4 := by omega
      have hkl : k < f.2.2.1.length := by have h4 : x.n4 = _ := HX.out.n4; omega
      have HT := hide (fs_names_take f.2.2.1 k hkl)
      have HTL := hide (show ((f.2.2.1.take k).map (·.1)).length = k by rw [List.length_map, List.length_take]; omega)
      obtain ⟨b, off, a2, c2, ea, q0, q1, q2⟩ := (HX.out.fl).atB hbel.out k hkl
      rw [ea] at k4
      clear q1 q2 ea
      obtain ⟨g, hf⟩ : ∃ g, g = (f.2.2.1)[k] := ⟨_, rfl⟩
      rw [← hf] at q0 HT
      clear hf
      obtain ⟨s, l⟩ := g
      simp only at q0
      obtain ⟨av, cv, e9⟩ := hown.out.form
      rw [HTL.out] at e9
      subst e9
      obtain ⟨g9, c9, w9, hrun, ho9, hb9⟩ := app_txt hown.out (by have := hat.out.lt; omega) (by rw [HTL.out]; omega) s
      rw [HTL.out] at hrun ho9
      have HO9 := hide (show OwT w9 (w.heap.size + 1) _ ((f.2.2.1.take (k + 1)).map (·.1)) by rw [HT.out]; exact ho9)
      have HB9 := hide (hbel.out.trans (hb9.mono (Nat.le_succ _)))
      have HAT9 := hide (show FsAt w9 w.heap.size x from hat.out.below (Nat.lt_succ_self _) hb9)
      clear ho9 hb9 hown
      go_wp2_with (at_builtin; refine wpList_runappE rfl (.tmp 20) (.tmp 28) 63 rfl rfl rfl rfl hrun ?_)
      go_roundw
      case rel => exact ⟨k + 1, by omega, rfl, HO9, HAT9, HB9⟩
      case measure => simp only [intOf]; omega
    · have hd : decide ((k : Int) < x.n4) = false := decide_eq_false (by omega)
      have HO := hide (show OwT wr w.heap.size _ (namesL f) by
        have := hown.out
        rw [List.take_of_length_le (by have h4 : x.n4 = _ := HX.out.n4; omega)] at this
        rw [HE.out]; exact this.mono (Nat.le_succ _))
      clear hown
      go_wp2
      go_ret2
      rw [HG.out]
      exact ⟨_, rfl, HO.out, hbel.out⟩

end Go.Proofs.YtlibnefibeikcaaGreat
namespace Go.Proofs.YtlibnefibeikcaaGreat
open Go.RowKit
set_option linter.unusedVariables false
set_option linter.unusedSimpArgs false

theorem room_is {f : Fsd} (h : okFs f) : roomE f = 0 ∧ roomN f = manyX (freeL 34 (mny f.1) (usedFs f)) ∧ freeE 34 (mny f.1) (usedFs f) = 0 ∧ allX (freeL 34 (mny f.1) (usedFs f)) = 0 := by
  have hm := mnyFs_ok (okFs_disk h).1
  have h1 := free_ok h
  have h2 := (room_cnt h).1
  have h3 : chkX (freeL 34 (mnyFs f) (usedFs f)) = 0 := by
    have h4 := h2
    unfold roomE at h4
    rwa [if_neg (by rw [fsE_of h]; decide), if_neg (by rw [h1]; decide)] at h4
  have h5 : roomN f = manyX (freeL 34 (mnyFs f) (usedFs f)) := by
    unfold roomN manyR
    rw [if_neg (by rw [fsE_of h]; decide), if_neg (by rw [h1]; decide), if_pos h3]
  have h6 : allX (freeL 34 (mnyFs f) (usedFs f)) = 0 := by
    unfold chkX at h3
    by_cases e : allX (freeL 34 (mnyFs f) (usedFs f)) = 0
    · exact e
    · rw [if_pos e] at h3; exact h3
  rw [hm] at h1 h5 h6
  exact ⟨h2, h5, h1, h6⟩
theorem manyX_take (l : List Ex) (k : Nat) (hk : k < l.length) : manyX (l.take (k + 1)) = manyX (l.take k) + (l[k]).2 := by rw [List.take_succ_eq_append_getElem hk, manyX_snoc]

set_option maxHeartbeats 4000000 in
set_option maxRecDepth 100000 in
theorem rfree6_any (x : FsV) (f : Fsd) (w : World) (h : RdX w x f) (hw : WfX f) :
    Calls Tryz.prog 35 #[x.val] w fun e w' => e = .returned (.tuple #[.int .i64 (roomN f), .int .i64 (roomE f)]) ∧ Below w.heap.size w w' := by
  have HW := hide hw
  have HX := hide h
  clear hw h
  obtain ⟨w1, ew⟩ : ∃ w1, w.alloc (.cells x.cs 32) = w1 := ⟨_, rfl⟩
  have hb1 : Below w.heap.size w w1 := by rw [← ew]; exact (Below.refl _ _).alloc (Nat.le_refl _) _
  have HFf_w1 := hide (show FsAt w1 w.heap.size x by rw [← ew]; exact Bq.new _ _ _)
  have HB_w1 := hide hb1
  clear hb1
  unfold FsV.val
  unfold FsV.cs at ew
  go_enter Tryz.func35, Tryz.ntmps35
  obtain ⟨kf0, kf1, kf2, kf3, kf4, kf5⟩ := fs_cells HFf_w1.out
  have hcon := rcheck6_any x f w1 (HX.out.carry HB_w1.out) HW.out
  go_wp2_with fail
  try rw [ew]
  refine hcon.mono ?_
  rintro e w2 ⟨rfl, hbb⟩
  have HFf_w2 := hide (HFf_w1.out.carry hbb)
  have HB_w2 := hide (show Below w.heap.size w w2 from HB_w1.out.trans (hbb.mono HB_w1.out.size))
  clear hcon hbb kf0 kf1 kf2 kf3 kf4 kf5
  try clear ew
  rcases (fsE_cases f).symm with ⟨_, g1⟩ | ⟨hok, g1⟩
  · have HE := hide (show roomE f = 8 ∧ roomN f = 0 by unfold roomE roomN; rw [if_pos (by rw [g1]; decide), if_pos (by rw [g1]; decide), g1]; exact ⟨rfl, rfl⟩)
    rw [g1]
    clear g1
    go_wp2
    go_ret2
    rw [HE.out.1, HE.out.2]
    exact ⟨rfl, HB_w2.out⟩
  rw [g1]
  clear g1
  have HXQ := hide HX.out
  have HOK := hide hok
  clear hok
  have HRM := hide (room_is HOK.out)
  obtain ⟨B, hB⟩ : ∃ B : Nat, B = mny f.1 := ⟨_, rfl⟩
  have HDV := hide (show x.n1 / 128 = B by have h1 : x.n1 = _ := HX.out.n1; have := okD_len (okFs_disk HOK.out).1; rw [hB]; omega)
  rw [← hB] at HRM
  clear hB
  obtain ⟨L, hL⟩ : ∃ L, L = freeL 34 B (usedFs f) := ⟨_, rfl⟩
  have HL := hide hL
  rw [← hL] at HRM
  clear hL
  go_wp2_with fail
  refine region_cut (α := (Option Addr × Nat × Nat) × (Option Addr × Nat × Nat)) (F := fun bx a => (((((((((((a.put (some 15) (.pointer (some ⟨w.heap.size, 0, none⟩))).put (some 16) (.agg #[.slice x.a1 x.n1 x.c1, .slice x.a2 x.n2 x.c2, .slice x.a3 x.n3 x.c3])).put (some 17) (.int .i64 B)).put (some 18) x.val).put (some 19) (.slice bx.1.1 bx.1.2.1 bx.1.2.2)).put (some 20) (.tuple #[.slice bx.2.1 bx.2.2.1 bx.2.2.2, .int .i64 0])).put (some 14) (.tuple #[.slice bx.2.1 bx.2.2.1 bx.2.2.2, .int .i64 0])).put (some 21) (.slice bx.2.1 bx.2.2.1 bx.2.2.2)).put (some 22) (.int .i64 0)).put (some 5) (.slice bx.2.1 bx.2.2.1 bx.2.2.2)).put (some 6) (.int .i64 0))) (R := fun bx wv => RdE wv (.slice bx.2.1 bx.2.2.1 bx.2.2.2) L ∧ Hid (bx.2.2.1 = L.length) ∧ Below w2.heap.size w2 wv) ?regqv ?impqv
  case regqv =>
    have hK : Keeps (fun wx => Below w2.heap.size w2 wx) := fun w1 w2 h hb => h.trans (hb.mono h.size)
    have hS0 : (fun wx => Below w2.heap.size w2 wx) w2 := Below.refl _ _
    refine reg_begin hK (by kernel_rfl) hS0 ?_
    intro hS
    generalize w2.drew = wd at *
    refine reg_take (i := 0) (v := ?qv1v) rfl (by kernel_rfl) (by kernel_rfl) (by kernel_rfl) (by kernel_rfl) ?qv1y hS ?qv1r
    case qv1y => (rintro wx hx; obtain ⟨k0, k1, k2, k3, k4, k5⟩ := fs_cells (HFf_w2.out.carry hx); clear hx; go_simp; all_goals (with_reducible rfl))
    try simp only [Act.put, List.setIfInBounds_toArray, List.set_cons_zero, List.set_cons_succ]
    refine reg_take (i := 1) (v := ?qv2v) rfl (by kernel_rfl) (by kernel_rfl) (by kernel_rfl) (by kernel_rfl) ?qv2y hS ?qv2r
    case qv2y => (rintro wx hx; obtain ⟨k0, k1, k2, k3, k4, k5⟩ := fs_cells (HFf_w2.out.carry hx); clear hx; go_simp; all_goals (with_reducible rfl))
    try simp only [Act.put, List.setIfInBounds_toArray, List.set_cons_zero, List.set_cons_succ]
    refine reg_take (i := 3) (v := ?qv3v) rfl (by kernel_rfl) (by kernel_rfl) (by kernel_rfl) (by kernel_rfl) ?qv3y hS ?qv3r
    case qv3y => (rintro wx hx; obtain ⟨k0, k1, k2, k3, k4, k5⟩ := fs_cells (HFf_w2.out.carry hx); clear hx; go_simp; all_goals (with_reducible rfl))
    try simp only [Act.put, List.setIfInBounds_toArray, List.set_cons_zero, List.set_cons_succ]
    refine reg_callg (i := 2) (R := fun v wy => v = .int .i64 B ∧ Below wd.heap.size wd wy) rfl (by kernel_rfl) (by kernel_rfl) (by go_simp; try rfl) ((rmany_any x.a1 x.a2 x.a3 x.n1 x.c1 x.n2 x.c2 x.n3 x.c3 (by rw [HXQ.out.n1]; exact HXQ.out.d.d1.len_le) wd).mono fun e wy ⟨h1, h2⟩ => ⟨_, h1, by rw [HDV.out], h2⟩) ?_
    rintro v9 wqv4 ⟨rfl, hbb⟩
    have hSN := hK _ _ hS hbb
    refine ⟨hSN, ?_⟩
    clear hS hbb
    have hS := hSN
    clear hSN
    try simp only [Act.put, List.setIfInBounds_toArray, List.set_cons_zero, List.set_cons_succ]
    refine reg_callg (i := 4) (R := fun v wy => ∃ ta tn tc, v = .slice ta tn tc ∧ RdE wy (.slice ta tn tc) (usedFs f) ∧ Hid (tn = (usedFs f).length) ∧ Below wqv4.heap.size wqv4 wy) rfl (by kernel_rfl) (by kernel_rfl) (by go_simp; try rfl) ((rtaken6_any x f wqv4 (HXQ.out.carry (HB_w2.out.trans (hS.mono HB_w2.out.size))) HW.out).mono fun e wy ⟨v, h1, h2, h3⟩ => by
          obtain ⟨a, c, ev⟩ := h2.form
          subst ev
          exact ⟨_, h1, a, _, c, rfl, h2.rd, hide rfl, h3⟩) ?_
    rintro v9 wqv5 ⟨ta, tn, tc, rfl, ht, htn, hbb⟩
    have hSN := hK _ _ hS hbb
    refine ⟨hSN, ?_⟩
    have Hqv6 := ht
    clear ht
    clear hS hbb
    have hS := hSN
    clear hSN
    try simp only [Act.put, List.setIfInBounds_toArray, List.set_cons_zero, List.set_cons_succ]
    refine reg_callg (i := 5) (R := fun v wy => ∃ fa fn fc, v = .tuple #[.slice fa fn fc, .int .i64 0] ∧ RdE wy (.slice fa fn fc) L ∧ Hid (fn = L.length) ∧ Below wqv5.heap.size wqv5 wy) rfl (by kernel_rfl) (by kernel_rfl) (by go_simp; try rfl) ((rFree_any 34 B ta tn tc (usedFs f) wqv5 Hqv6 htn.out (usedFs_wf f)).mono fun e wy ⟨v, h1, h2, h3⟩ => by
          rw [HRM.out.2.2.1] at h1
          rw [← HL.out] at h2
          obtain ⟨a, c, ev⟩ := h2.form
          subst ev
          exact ⟨_, h1, a, _, c, rfl, h2.rd, hide rfl, h3⟩) ?_
    rintro v9 wqv7 ⟨fa, fn, fc, rfl, hf, hfn, hbb⟩
    have hSN := hK _ _ hS hbb
    refine ⟨hSN, ?_⟩
    have Hqv8 := Hqv6.carry hbb
    have Hqv9 := hf
    clear hf
    clear hS hbb
    have hS := hSN
    clear hSN
    try simp only [Act.put, List.setIfInBounds_toArray, List.set_cons_zero, List.set_cons_succ]
    refine reg_take (i := 6) (v := ?qv10v) rfl (by kernel_rfl) (by kernel_rfl) (by kernel_rfl) (by kernel_rfl) ?qv10y hS ?qv10r
    case qv10y => (rintro wx hx; obtain ⟨k0, k1, k2, k3, k4, k5⟩ := fs_cells (HFf_w2.out.carry hx); clear hx; go_simp; all_goals (with_reducible rfl))
    try simp only [Act.put, List.setIfInBounds_toArray, List.set_cons_zero, List.set_cons_succ]
    refine reg_take (i := 7) (v := ?qv11v) rfl (by kernel_rfl) (by kernel_rfl) (by kernel_rfl) (by kernel_rfl) ?qv11y hS ?qv11r
    case qv11y => (rintro wx hx; obtain ⟨k0, k1, k2, k3, k4, k5⟩ := fs_cells (HFf_w2.out.carry hx); clear hx; go_simp; all_goals (with_reducible rfl))
    try simp only [Act.put, List.setIfInBounds_toArray, List.set_cons_zero, List.set_cons_succ]
    refine reg_take (i := 8) (v := ?qv12v) rfl (by kernel_rfl) (by kernel_rfl) (by kernel_rfl) (by kernel_rfl) ?qv12y hS ?qv12r
    case qv12y => (rintro wx hx; obtain ⟨k0, k1, k2, k3, k4, k5⟩ := fs_cells (HFf_w2.out.carry hx); clear hx; go_simp; all_goals (with_reducible rfl))
    try simp only [Act.put, List.setIfInBounds_toArray, List.set_cons_zero, List.set_cons_succ]
    refine reg_take (i := 9) (v := ?qv13v) rfl (by kernel_rfl) (by kernel_rfl) (by kernel_rfl) (by kernel_rfl) ?qv13y hS ?qv13r
    case qv13y => (rintro wx hx; obtain ⟨k0, k1, k2, k3, k4, k5⟩ := fs_cells (HFf_w2.out.carry hx); clear hx; go_simp; all_goals (with_reducible rfl))
    try simp only [Act.put, List.setIfInBounds_toArray, List.set_cons_zero, List.set_cons_succ]
    refine reg_take (i := 10) (v := ?qv14v) rfl (by kernel_rfl) (by kernel_rfl) (by kernel_rfl) (by kernel_rfl) ?qv14y hS ?qv14r
    case qv14y => (rintro wx hx; obtain ⟨k0, k1, k2, k3, k4, k5⟩ := fs_cells (HFf_w2.out.carry hx); clear hx; go_simp; all_goals (with_reducible rfl))
    try simp only [Act.put, List.setIfInBounds_toArray, List.set_cons_zero, List.set_cons_succ]
    refine wpAnyH_done (by kernel_rfl) ?_ _
    refine NoPanic.normal ?_
    exact ⟨rfl, ((ta, tn, tc), (fa, fn, fc)), by simp only [Act.put, List.setIfInBounds_toArray, List.set_cons_zero, List.set_cons_succ] <;> rfl, Hqv9, hfn, hS⟩
  case impqv =>
    rintro ⟨⟨ta, tn, tc⟩, ⟨fa, fn, fc⟩⟩ wv ⟨hf, hfn, hbb⟩
    try simp only [Act.put, List.setIfInBounds_toArray, List.set_cons_zero, List.set_cons_succ]
    dsimp only at hf hfn
    have HF := hide hf
    have HB_wv := hide (show Below w.heap.size w wv from HB_w2.out.trans (hbb.mono HB_w2.out.size))
    have HLL := hide (show L.length ≤ 4096 from (allX_ok HRM.out.2.2.2).1)
    have hfl : fn ≤ 4096 := by have := HLL.out; have := hfn.out; omega
    clear hf hbb
    go_wp2_with fail
    go_loopw [8, 7] (fun i v wr => ∃ k : Nat, k ≤ fn ∧ i = .int .i64 k ∧ ∃ s : Int, v = .int .i64 s ∧ Hid (s = manyX (L.take k)) ∧ Hid (Below wv.heap.size wv wr)) (fun i _ _ => fn - (intOf i).toNat)
    case atStart => exact ⟨0, Nat.zero_le _, rfl, 0, rfl, hide (by simp [manyX]), hide (Below.refl _ _)⟩
    case round =>
      obtain ⟨k, hk, rfl, s, rfl, hs, hbel⟩ := hrel
      by_cases hlt : k < fn
      · have hlt' : (k : Int) < fn := by omega
        have hkl : k < L.length := by have := hfn.out; omega
        obtain ⟨b, off, ea, q0, q1⟩ := RdE.at (HF.out.carry hbel.out) k hkl
        subst ea
        have HS := hide (manyX_take L k hkl)
        have hb1 := manyX_le (k := k) HRM.out.2.2.2
        have hb2 := manyX_le (k := k + 1) HRM.out.2.2.2
        obtain ⟨m, hm⟩ : ∃ m, m = (L[k]).2 := ⟨_, rfl⟩
        rw [← hm] at q1 HS
        have HS2 := hide (show s + m = manyX (L.take (k + 1)) by rw [HS.out, hs.out])
        have hwr : IntKind.i64.wrap (s + m) = s + m := by
          rw [IntKind.wrap_i64]; rw [← HS2.out] at hb2; omega
        have hwr2 : wrap64 (s + m) = s + m := by
          unfold wrap64; rw [← HS2.out] at hb2; omega
        clear hm hb1 hb2
        go_wp2
        go_roundw
        case rel => exact ⟨k + 1, by omega, rfl, s + m, rfl, HS2, hbel⟩
        case measure => simp only [intOf]; omega
      · have hd : decide ((k : Int) < fn) = false := decide_eq_false (by omega)
        have HE := hide (show s = roomN f by rw [hs.out, HRM.out.2.1, List.take_of_length_le (by have := hfn.out; omega)])
        go_wp2
        go_ret2
        rw [HRM.out.1, ← HE.out]
        exact ⟨rfl, HB_wv.out.trans (hbel.out.mono HB_wv.out.size)⟩

end Go.Proofs.YtlibnefibeikcaaGreat
namespace Go.Proofs.YtlibnefibeikcaaGreat
open Go.RowKit
set_option linter.unusedVariables false
set_option linter.unusedSimpArgs false

theorem txt_at {w w' : World} {base : Nat} {a : Option Addr} {n c : Nat} {l : List (List UInt8)} (h : OwT w base (.slice a n c) l) (hb : Below w.heap.size w w') (j : Nat) (hj : j < l.length) : ∃ g, a = some ⟨g, 0, none⟩ ∧ CellAt w' g j (.string (bs l[j])) := by
  obtain ⟨g, e, h2⟩ := (h.carry hb).at j hj
  exact ⟨g, e, h2⟩
set_option maxHeartbeats 4000000 in
set_option maxRecDepth 100000 in
theorem rsameT_any (a : Option Addr) (n c : Nat) (a' : Option Addr) (c' : Nat) (base base' : Nat) (l : List (List UInt8)) (w : World) (h : OwT w base (.slice a n c) l) (h' : OwT w base' (.slice a' n c') l) (hn : n = l.length) (hl : n ≤ 1000000) :
    Calls Tryz.prog 36 #[.slice a n c, .slice a' n c'] w fun e w' => e = .returned (.bool true) ∧ Below w.heap.size w w' := by
  have HA := hide h
  have HA2 := hide h'
  have HN := hide hn
  clear h h' hn
  go_enter Tryz.func36, Tryz.ntmps36
  go_wp2_with fail
  go_loopw [5] (fun i wr => ∃ k : Nat, k ≤ n ∧ i = .int .i64 k ∧ Hid (Below w.heap.size w wr)) (fun i _ => n - (intOf i).toNat)
  case atStart => exact ⟨0, Nat.zero_le _, rfl, hide (Below.refl _ _)⟩
  case round =>
    obtain ⟨k, hk, rfl, hbel⟩ := hrel
    by_cases hlt : k < n
    · have hlt' : (k : Int) < n := by omega
      have hkl : k < l.length := by have := HN.out; omega
      obtain ⟨b1, e1, q1⟩ := txt_at HA.out hbel.out k hkl
      obtain ⟨b2, e2, q2⟩ := txt_at HA2.out hbel.out k hkl
      subst e1 e2
      obtain ⟨s, hs⟩ : ∃ s, s = l[k] := ⟨_, rfl⟩
      rw [← hs] at q1 q2
      clear hs
      have HQA := hide q1
      have HQB := hide q2
      clear q1 q2
      go_wp2_with fail
      have hK : Keeps (fun wx => Below wr.heap.size wr wx) := fun w1 w2 h hb => h.trans (hb.mono h.size)
      refine reg_begin hK (by kernel_rfl) (Below.refl _ _) ?_
      intro hS
      generalize wr.drew = wd at *
      refine reg_take (i := 0) (v := ?qsv0) rfl (by kernel_rfl) (by kernel_rfl) (by kernel_rfl) (by kernel_rfl) ?qsy0 hS ?qsr0
      case qsy0 => (rintro wx hx; (have q1 := CellAt.carry HQA.out hx); (have q2 := CellAt.carry HQB.out hx); unfold CellAt at q1 q2; clear hx; go_simp; all_goals (with_reducible rfl))
      try simp only [Act.put, List.setIfInBounds_toArray, List.set_cons_zero, List.set_cons_succ]
      refine reg_take (i := 1) (v := ?qsv1) rfl (by kernel_rfl) (by kernel_rfl) (by kernel_rfl) (by kernel_rfl) ?qsy1 hS ?qsr1
      case qsy1 => (rintro wx hx; (have q1 := CellAt.carry HQA.out hx); (have q2 := CellAt.carry HQB.out hx); unfold CellAt at q1 q2; clear hx; go_simp; all_goals (with_reducible rfl))
      try simp only [Act.put, List.setIfInBounds_toArray, List.set_cons_zero, List.set_cons_succ]
      refine reg_take (i := 2) (v := ?qsv2) rfl (by kernel_rfl) (by kernel_rfl) (by kernel_rfl) (by kernel_rfl) ?qsy2 hS ?qsr2
      case qsy2 => (rintro wx hx; (have q1 := CellAt.carry HQA.out hx); (have q2 := CellAt.carry HQB.out hx); unfold CellAt at q1 q2; clear hx; go_simp; all_goals (with_reducible rfl))
      try simp only [Act.put, List.setIfInBounds_toArray, List.set_cons_zero, List.set_cons_succ]
      refine reg_take (i := 3) (v := ?qsv3) rfl (by kernel_rfl) (by kernel_rfl) (by kernel_rfl) (by kernel_rfl) ?qsy3 hS ?qsr3
      case qsy3 => (rintro wx hx; (have q1 := CellAt.carry HQA.out hx); (have q2 := CellAt.carry HQB.out hx); unfold CellAt at q1 q2; clear hx; go_simp; all_goals (with_reducible rfl))
      try simp only [Act.put, List.setIfInBounds_toArray, List.set_cons_zero, List.set_cons_succ]
      refine reg_take (i := 4) (v := ?qsv4) rfl (by kernel_rfl) (by kernel_rfl) (by kernel_rfl) (by kernel_rfl) ?qsy4 hS ?qsr4
      case qsy4 => (rintro wx hx; (have q1 := CellAt.carry HQA.out hx); (have q2 := CellAt.carry HQB.out hx); unfold CellAt at q1 q2; clear hx; go_simp; all_goals (with_reducible rfl))
      try simp only [Act.put, List.setIfInBounds_toArray, List.set_cons_zero, List.set_cons_succ]
      refine reg_take (i := 5) (v := ?qsv5) rfl (by kernel_rfl) (by kernel_rfl) (by kernel_rfl) (by kernel_rfl) ?qsy5 hS ?qsr5
      case qsy5 => (rintro wx hx; (have q1 := CellAt.carry HQA.out hx); (have q2 := CellAt.carry HQB.out hx); unfold CellAt at q1 q2; clear hx; go_simp; all_goals (with_reducible rfl))
      try simp only [Act.put, List.setIfInBounds_toArray, List.set_cons_zero, List.set_cons_succ]
      refine reg_take (i := 6) (v := ?qsv6) rfl (by kernel_rfl) (by kernel_rfl) (by kernel_rfl) (by kernel_rfl) ?qsy6 hS ?qsr6
      case qsy6 => (rintro wx hx; (have q1 := CellAt.carry HQA.out hx); (have q2 := CellAt.carry HQB.out hx); unfold CellAt at q1 q2; clear hx; go_simp; all_goals (with_reducible rfl))
      try simp only [Act.put, List.setIfInBounds_toArray, List.set_cons_zero, List.set_cons_succ]
      refine reg_take (i := 7) (v := ?qsv7) rfl (by kernel_rfl) (by kernel_rfl) (by kernel_rfl) (by kernel_rfl) ?qsy7 hS ?qsr7
      case qsy7 => (rintro wx hx; (have q1 := CellAt.carry HQA.out hx); (have q2 := CellAt.carry HQB.out hx); unfold CellAt at q1 q2; clear hx; go_simp; all_goals (with_reducible rfl))
      try simp only [Act.put, List.setIfInBounds_toArray, List.set_cons_zero, List.set_cons_succ]
      refine reg_take (i := 8) (v := ?qsv8) rfl (by kernel_rfl) (by kernel_rfl) (by kernel_rfl) (by kernel_rfl) ?qsy8 hS ?qsr8
      case qsy8 => (rintro wx hx; (have q1 := CellAt.carry HQA.out hx); (have q2 := CellAt.carry HQB.out hx); unfold CellAt at q1 q2; clear hx; go_simp; all_goals (with_reducible rfl))
      try simp only [Act.put, List.setIfInBounds_toArray, List.set_cons_zero, List.set_cons_succ]
      refine wpAnyH_done (by kernel_rfl) ?_ _
      refine NoPanic.normal ?_
      try simp only [Act.put, List.setIfInBounds_toArray, List.set_cons_zero, List.set_cons_succ]
      have HBE := hide (hbel.out.trans (hS.mono hbel.out.size))
      clear hS hK
      go_wp2
      go_roundw
      case rel => exact ⟨k + 1, by omega, rfl, HBE⟩
      case measure => simp only [intOf]; omega
    · have hd : decide ((k : Int) < n) = false := decide_eq_false (by omega)
      go_wp2
      go_ret
      exact ⟨rfl, hbel.out⟩

end Go.Proofs.YtlibnefibeikcaaGreat
