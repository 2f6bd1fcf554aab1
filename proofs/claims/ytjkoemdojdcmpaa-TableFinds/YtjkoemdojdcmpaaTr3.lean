/-
  What the document's Get, Between and Range of layer 14 do.
-/
import Derived.Test.YtjkoemdojdcmpaaTr2
import Derived.Test.YtjkoemdojdcmpaaTb12
import Derived.Test.YtjkoemdojdcmpaaBr5
namespace Go.Proofs.Ytjkoemdojdcmpaa
open Go.RowKit
set_option linter.unusedVariables false
set_option linter.unusedSimpArgs false

set_option maxHeartbeats 2000000 in
set_option maxRecDepth 100000 in
theorem rget_tb (a : Option Addr) (n c : Nat) (l key : List UInt8) (seq : Int) (w : World) (hrd : Rd w (.slice a n c) l) :
    Calls Try.prog 19 #[.slice a n c, .string (bs key), .int .i64 seq] w fun e w' => e = .returned (.tuple #[.agg #[.string (bs (gtTV l key seq).1), .int .i64 (gtTV l key seq).2.1, .bool (gtTV l key seq).2.2.1, .string (bs (gtTV l key seq).2.2.2)], .bool (gtTB l key seq), .int .i64 (gtTE l key seq)]) ∧ Below w.heap.size w w' := by
  have HRD := hide hrd
  clear hrd
  obtain ⟨w1, hw1⟩ : ∃ w1, w1 = w.alloc (.cells #[.string { data := #[] }, .int .i64 0, .bool false, .string { data := #[] }] 31) := ⟨_, rfl⟩
  have hb1 : Below w.heap.size w w1 := by rw [hw1]; exact (Below.refl _ _).alloc (Nat.le_refl _) _
  have HR_w1 := hide (show EntAt w1 w.heap.size zE by rw [hw1]; exact EntAt.new w zE)
  have HB_w1 := hide hb1
  obtain ⟨R, hR⟩ : ∃ R, R = w.heap.size := ⟨_, rfl⟩
  rw [← hR] at HR_w1
  have HR0 := hide (show w.heap.size ≤ R from Nat.le_of_eq hR.symm)
  have hck := rread_tb a n c l w1 (HRD.out.carry hb1)
  clear hb1
  go_enter Try.func19, Try.ntmps19
  go_wp2_with fail
  rw [← hw1]
  try rw [← hR]
  clear hw1 hR
  refine hck.mono ?_
  rintro e w2 ⟨av, nv, cv, rfl, o2, b2⟩
  have HR_w2 := hide (HR_w1.out.carry b2)
  have HB_w2 := hide (show Below w.heap.size w w2 from HB_w1.out.trans (b2.mono HB_w1.out.size))
  have HO2 := hide (OwG.rd ecN_len o2)
  clear hck b2 o2 HR_w1 HB_w1
  by_cases g1 : rdTE l = 0
  case neg =>
    have HE := hide (show gtTE l key seq = rdTE l from gt_e1 g1)
    have HV := hide (gt_bad (b := l) (key := key) (seq := seq) (by rw [HE.out]; exact g1))
    have g1' : (rdTE l == 0) = false := by simpa using g1
    generalize rdTE l = z at *
    obtain ⟨r0, r1, r2, r3⟩ := HR_w2.out.cells
    have f0 := HR_w2.out.fz 0
    have f1 := HR_w2.out.fz 1
    have f2 := HR_w2.out.fz 2
    have f3 := HR_w2.out.fz 3
    have hp9 : EntAt (set4 w2 R (.string { data := #[] }) (.int .i64 0) (.bool false) (.string { data := #[] })) R zE := HR_w2.out.put zE
    have HB9 := hide (show Below w.heap.size w (set4 w2 R (.string { data := #[] }) (.int .i64 0) (.bool false) (.string { data := #[] })) from below_set4 HB_w2.out HR0.out _ _ _ _)
    obtain ⟨w9, hw9⟩ : ∃ w9, w9 = set4 w2 R (.string { data := #[] }) (.int .i64 0) (.bool false) (.string { data := #[] }) := ⟨_, rfl⟩
    rw [← hw9] at hp9 HB9
    unfold set4 at hw9
    obtain ⟨z0, z1, z2, z3⟩ := hp9.cells
    clear hp9
    go_wp2
    rw [← hw9]
    clear r0 r1 r2 r3 f0 f1 f2 f3
    refine bodyPost_ret (v := .tuple #[.agg #[.string { data := #[] }, .int .i64 0, .bool false, .string { data := #[] }], .bool false, .int .i64 z]) ?_ rfl ⟨by rw [HV.out.1, HV.out.2, HE.out]; rfl, HB9.out⟩
    clear hw9
    try simp only [zE, show bs ([] : List UInt8) = { data := #[] } from rfl] at z0 z1 z2 z3
    simp [results, Try.results19, go_sem, *]
  have HG1 := hide g1
  rw [g1]
  clear g1
  have hra := rasked_br key seq w2
  have HFA := hide (show gtTE l key seq = askK key seq by rw [gt_e0 HG1.out]; rfl)
  by_cases g2 : askK key seq = 0
  case neg =>
    have HE := HFA
    have HV := hide (gt_bad (b := l) (key := key) (seq := seq) (by rw [HE.out]; exact g2))
    have g2' : (askK key seq == 0) = false := by simpa using g2
    generalize askK key seq = z at *
    go_wp2_with fail
    refine hra.mono ?_
    rintro e wq ⟨rfl, rfl⟩
    clear hra
    have HR_wq := HR_w2
    have HB_wq := HB_w2
    obtain ⟨r0, r1, r2, r3⟩ := HR_wq.out.cells
    have f0 := HR_wq.out.fz 0
    have f1 := HR_wq.out.fz 1
    have f2 := HR_wq.out.fz 2
    have f3 := HR_wq.out.fz 3
    have hp9 : EntAt (set4 wq R (.string { data := #[] }) (.int .i64 0) (.bool false) (.string { data := #[] })) R zE := HR_wq.out.put zE
    have HB9 := hide (show Below w.heap.size w (set4 wq R (.string { data := #[] }) (.int .i64 0) (.bool false) (.string { data := #[] })) from below_set4 HB_wq.out HR0.out _ _ _ _)
    obtain ⟨w9, hw9⟩ : ∃ w9, w9 = set4 wq R (.string { data := #[] }) (.int .i64 0) (.bool false) (.string { data := #[] }) := ⟨_, rfl⟩
    rw [← hw9] at hp9 HB9
    unfold set4 at hw9
    obtain ⟨z0, z1, z2, z3⟩ := hp9.cells
    clear hp9
    go_wp2
    rw [← hw9]
    clear r0 r1 r2 r3 f0 f1 f2 f3
    refine bodyPost_ret (v := .tuple #[.agg #[.string { data := #[] }, .int .i64 0, .bool false, .string { data := #[] }], .bool false, .int .i64 z]) ?_ rfl ⟨by rw [HV.out.1, HV.out.2, HE.out]; rfl, HB9.out⟩
    clear hw9
    try simp only [zE, show bs ([] : List UInt8) = { data := #[] } from rfl] at z0 z1 z2 z3
    simp [results, Try.results19, go_sem, *]
  rw [g2] at hra HFA
  have HE := HFA
  clear g2
  go_wp2_with fail
  refine hra.mono ?_
  rintro e wq ⟨rfl, rfl⟩
  clear hra
  have hse := rseen_br av nv cv (rdTL l) key seq wq HO2.out (by have := HO2.out.len; have := rdTL_len l; omega) (rdTL_ch l)
  go_wp2_with fail
  refine hse.mono ?_
  rintro e w3 ⟨x, is, rfl, hout, b3⟩
  have HR_w3 := hide (HR_w2.out.carry b3)
  have HB_w3 := hide (show Below w.heap.size w w3 from HB_w2.out.trans (b3.mono HB_w2.out.size))
  have HV := hide (show gtTV l key seq = x ∧ gtTB l key seq = is by
    have h1 : gtTO l key seq = findK (rdTL l) key seq := by unfold gtTO; rw [if_pos HE.out]
    unfold gtTV gtTB
    rw [h1, hout.1, hout.2]
    exact ⟨rfl, rfl⟩)
  clear hse hout b3 HR_w2 HB_w2
  obtain ⟨w4, hw4⟩ : ∃ w4, w4 = w3.alloc (.cells #[.string (bs x.1), .int .i64 x.2.1, .bool x.2.2.1, .string (bs x.2.2.2)] 31) := ⟨_, rfl⟩
  have b4 : Below w3.heap.size w3 w4 := by rw [hw4]; exact (Below.refl _ _).alloc (Nat.le_refl _) _
  have HR_w4 := hide (HR_w3.out.carry b4)
  have HB_w4 := hide (show Below w.heap.size w w4 from HB_w3.out.trans (b4.mono HB_w3.out.size))
  obtain ⟨x0, x1, x2, x3⟩ := (show EntAt w4 w3.heap.size x by rw [hw4]; exact EntAt.new w3 x).cells
  clear b4 HR_w3 HB_w3
  obtain ⟨r0, r1, r2, r3⟩ := HR_w4.out.cells
  have f0 := HR_w4.out.fz 0
  have f1 := HR_w4.out.fz 1
  have f2 := HR_w4.out.fz 2
  have f3 := HR_w4.out.fz 3
  have hp9 := HR_w4.out.put x
  have HB9 := hide (below_set4 HB_w4.out HR0.out (.string (bs x.1)) (.int .i64 x.2.1) (.bool x.2.2.1) (.string (bs x.2.2.2)))
  obtain ⟨w9, hw9⟩ : ∃ w9, w9 = set4 w4 R (.string (bs x.1)) (.int .i64 x.2.1) (.bool x.2.2.1) (.string (bs x.2.2.2)) := ⟨_, rfl⟩
  rw [← hw9] at hp9 HB9
  unfold set4 at hw9
  obtain ⟨z0, z1, z2, z3⟩ := hp9.cells
  clear hp9
  rw [hw4] at x0 x1 x2 x3 r0 r1 r2 r3 f0 f1 f2 f3 hw9
  clear hw4
  go_wp2
  rw [← hw9]
  clear x0 x1 x2 x3 r0 r1 r2 r3 f0 f1 f2 f3
  refine bodyPost_ret (v := .tuple #[.agg #[.string (bs x.1), .int .i64 x.2.1, .bool x.2.2.1, .string (bs x.2.2.2)], .bool is, .int .i64 0]) ?_ rfl ⟨by rw [HV.out.1, HV.out.2, HE.out], HB9.out⟩
  clear hw9
  simp [results, Try.results19, go_sem, *]

set_option maxHeartbeats 4000000 in
set_option maxRecDepth 100000 in
theorem rbetw_tb (a : Option Addr) (n c : Nat) (l : List Ent) (x y : List UInt8) (w : World) (hrd : RdN w (.slice a n c) l) (hn : n ≤ 1024) :
    Calls Try.prog 39 #[.slice a n c, .string (bs x), .string (bs y)] w fun e w' => ∃ av nv cv, e = .returned (.slice av nv cv) ∧ OwN w' w.heap.size (.slice av nv cv) (partM l x y) ∧ Below w.heap.size w w' := by
  have HN := hide hrd.len
  have HR := hide hrd
  clear hrd
  go_enter Try.func39, Try.ntmps39
  go_wp2
  go_loopw [7, 8] (fun v i wr => ∃ (k : Nat) (ap : Option Addr) (np cp : Nat), k ≤ n ∧ v = .slice ap np cp ∧ i = .int .i64 k ∧ Hid (OwN wr w.heap.size (.slice ap np cp) (partM (l.take k) x y)) ∧ Hid (Below w.heap.size w wr)) (fun _ i _ => n - (intOf i).toNat)
  case atStart => exact ⟨0, _, _, _, Nat.zero_le _, rfl, rfl, hide (OwG.nil _ _), hide (Below.refl _ _)⟩
  case round =>
    obtain ⟨k, ap, np, cp, hk, rfl, rfl, hO, hB⟩ := hrel
    by_cases hlt : k < n
    · have hlt' : (k : Int) < n := by omega
      have hkl : k < l.length := by have := HN.out; omega
      obtain ⟨b, off, e1, q0, q1, q2, q3⟩ := RdN.cells HR.out hB.out k hkl
      subst e1
      have HT := hide (part_take l x y k hkl)
      have HPL := hide (show (partM (l.take k) x y).length ≤ 1024 by have := part_len (l.take k) x y; rw [List.length_take] at this; omega)
      generalize l[k] = u at *
      have he := bs_emp y
      have hl1 := lt_bs u.1 x
      have hl2 := lt_bs u.1 y
      clear hkl
      cases h1 : ltS u.1 x with
      | true =>
        rw [h1] at hl1
        have HIN := hide (in_no1 (y := y) h1)
        clear h1
        rw [HIN.out, if_neg (by simp)] at HT
        go_wp2
        clear q0 q1 q2 q3
        go_roundw
        case rel => exact ⟨k + 1, _, _, _, by omega, rfl, by go_num, hide (by rw [HT.out]; exact hO.out), hB⟩
        case measure => simp only [intOf]; omega
      | false =>
      rw [h1] at hl1
      by_cases h2 : y = []
      · rw [decide_eq_true h2] at he
        have HIN := hide (in_yes1 h1 h2)
        clear h1 h2
        rw [HIN.out, if_pos rfl] at HT
        obtain ⟨g9, c9, w9, hrun9, o9, b9⟩ := app_entT hO.out hB.out.size (by have := HPL.out; omega) u
        rw [← HT.out] at o9
        have HO9 := hide o9
        have HB9 := hide (hB.out.trans b9)
        clear o9 b9
        generalize (partM (l.take k) x y).length + 1 = m9 at *
        go_wp2_with (first | (at_builtin; refine wpList_runappY rfl (.tmp 35) (.tmp 40) 32 rfl rfl rfl rfl hrun9 ?_) | fail)
        clear hrun9 q0 q1 q2 q3
        go_roundw
        case rel => exact ⟨k + 1, _, _, _, by omega, rfl, by go_num, HO9, HB9⟩
        case measure => simp only [intOf]; omega
      · rw [decide_eq_false h2] at he
        cases h3 : ltS u.1 y with
        | false =>
          rw [h3] at hl2
          have HIN := hide ((in_two h1 h2).trans h3)
          clear h1 h2 h3
          rw [HIN.out, if_neg (by simp)] at HT
          go_wp2
          clear q0 q1 q2 q3
          go_roundw
          case rel => exact ⟨k + 1, _, _, _, by omega, rfl, by go_num, hide (by rw [HT.out]; exact hO.out), hB⟩
          case measure => simp only [intOf]; omega
        | true =>
          rw [h3] at hl2
          have HIN := hide ((in_two h1 h2).trans h3)
          clear h1 h2 h3
          rw [HIN.out, if_pos rfl] at HT
          obtain ⟨g9, c9, w9, hrun9, o9, b9⟩ := app_entT hO.out hB.out.size (by have := HPL.out; omega) u
          rw [← HT.out] at o9
          have HO9 := hide o9
          have HB9 := hide (hB.out.trans b9)
          clear o9 b9
          generalize (partM (l.take k) x y).length + 1 = m9 at *
          go_wp2_with (first | (at_builtin; refine wpList_runappY rfl (.tmp 35) (.tmp 40) 32 rfl rfl rfl rfl hrun9 ?_) | fail)
          clear hrun9 q0 q1 q2 q3
          go_roundw
          case rel => exact ⟨k + 1, _, _, _, by omega, rfl, by go_num, HO9, HB9⟩
          case measure => simp only [intOf]; omega
    · have hd : decide ((k : Int) < n) = false := by simpa using (by omega : ¬ (k : Int) < n)
      have HT := hide (show l.take k = l by rw [List.take_of_length_le (by have := HN.out; omega)])
      rw [HT.out] at hO
      go_wp2
      go_ret
      exact ⟨_, _, _, rfl, hO.out, hB.out⟩

set_option maxHeartbeats 4000000 in
set_option maxRecDepth 100000 in
theorem rrange_tb (a : Option Addr) (n c : Nat) (l x y : List UInt8) (w : World) (hrd : Rd w (.slice a n c) l) :
    Calls Try.prog 20 #[.slice a n c, .string (bs x), .string (bs y)] w fun e w' => ∃ av nv cv, e = .returned (.tuple #[.slice av nv cv, .int .i64 (rgTE l x y)]) ∧ OwN w' w.heap.size (.slice av nv cv) (rgTL l x y) ∧ Below w.heap.size w w' := by
  have hs1 := bs_size x
  have hs2 := bs_size y
  have hck := rread_tb a n c l w hrd
  clear hrd
  obtain ⟨xl, hxl⟩ : ∃ xl, xl = x.length := ⟨_, rfl⟩
  obtain ⟨yl, hyl⟩ : ∃ yl, yl = y.length := ⟨_, rfl⟩
  rw [← hxl] at hs1
  rw [← hyl] at hs2
  have HXL := hide hxl
  have HYL := hide hyl
  clear hxl hyl
  go_enter Try.func20, Try.ntmps20
  go_wp2_with fail
  refine hck.mono ?_
  rintro e w2 ⟨av, nv, cv, rfl, o2, b2⟩
  have HB2 := hide b2
  have HO2 := hide (OwG.rd ecN_len o2)
  clear hck b2 o2
  by_cases g1 : rdTE l = 0
  case neg =>
    have HE := hide (rg_e1 (x := x) (y := y) g1)
    have g1' : (rdTE l == 0) = false := by simpa using g1
    generalize rdTE l = z at *
    clear g1
    go_wp2
    go_ret2
    rw [HE.out.1, HE.out.2]
    exact ⟨_, _, _, rfl, OwG.nil _ _, HB2.out⟩
  have HG1 := hide g1
  rw [g1]
  clear g1
  by_cases g2 : 64 < xl
  · have g2' : (64 : Int) < xl := by omega
    have HE := hide (rg_e2 (x := x) (y := y) HG1.out (.inl (by rw [← HXL.out]; exact g2)))
    go_wp2
    go_ret2
    rw [HE.out.1, HE.out.2]
    exact ⟨_, _, _, rfl, OwG.nil _ _, HB2.out⟩
  have g2' : decide ((64 : Int) < xl) = false := by simpa using (by omega : ¬ (64 : Int) < xl)
  by_cases g3 : 64 < yl
  · have g3' : (64 : Int) < yl := by omega
    have HE := hide (rg_e2 (x := x) (y := y) HG1.out (.inr (by rw [← HYL.out]; exact g3)))
    go_wp2
    go_ret2
    rw [HE.out.1, HE.out.2]
    exact ⟨_, _, _, rfl, OwG.nil _ _, HB2.out⟩
  have g3' : decide ((64 : Int) < yl) = false := by simpa using (by omega : ¬ (64 : Int) < yl)
  have HE := hide (rg_e3 (x := x) (y := y) HG1.out (by have := HXL.out; have := HYL.out; omega))
  have hbt := rbetw_tb av nv cv (rdTL l) x y w2 HO2.out (by have := HO2.out.len; have := rdTL_len l; omega)
  go_wp2_with fail
  refine hbt.mono ?_
  rintro e w3 ⟨a3, n3, c3, rfl, o3, b3⟩
  have HB3 := hide (show Below w.heap.size w w3 from HB2.out.trans (b3.mono HB2.out.size))
  have HO3 := hide (OwG.mono o3 HB2.out.size)
  clear hbt o3 b3
  go_wp2
  go_ret2
  rw [HE.out.1, HE.out.2]
  exact ⟨_, _, _, rfl, HO3.out, HB3.out⟩

end Go.Proofs.Ytjkoemdojdcmpaa
