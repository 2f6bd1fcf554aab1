/-
  What the statement MergeDrops answers.
-/
import Derived.Test.YtdgjinfaopkalaaLg3
namespace Go.Proofs.Ytdgjinfaopkalaa
open Go.RowKit
set_option linter.unusedVariables false
set_option linter.unusedSimpArgs false

theorem rdR_one {w : World} {a : Option Addr} {n c : Nat} {l : List Ent} (h : RdN w (.slice a n c) l) : RdR (w.alloc (.cells #[.slice a n c] 22)) (.slice (some ⟨w.heap.size, 0, none⟩) 1 1) [(.slice a n c, l)] := by
  have hb : Below w.heap.size w (w.alloc (.cells #[.slice a n c] 22)) := (Below.refl _ _).alloc (Nat.le_refl _) _
  refine ⟨.inr ⟨w.heap.size, 0, 1, rfl, Nat.le_refl _, by unfold maxLen; omega, fun j hj i u hu => ?_⟩, fun p hp => ?_⟩
  · obtain rfl : j = 0 := by simpa using hj
    simp only [List.getElem_cons_zero, ecR] at hu
    have hi : i = 0 := by
      cases i with
      | zero => rfl
      | succ i => simp at hu
    subst hi
    simp only [List.getElem?_cons_zero, Option.some.injEq] at hu
    subst hu
    exact (Boxed.new w 22 (.slice a n c)).cell
  · obtain rfl := List.mem_singleton.1 hp
    exact h.carry hb
theorem drop_all {l : List Ent} {o : Int} (d : Bool) (h : askG l o = 0) : ∃ D, drpG o d l = D ∧ chkG D = 0 ∧ D.length ≤ l.length ∧ askG D o = 0 ∧ drpG o d D = D ∧ (∀ s, askG D s = askG l s) ∧ (∀ s, o ≤ s → lseG s true D = lseG s true l ∧ (d = false → lseG s false D = lseG s false l)) := by
  obtain ⟨h1, h2, h3⟩ := askG_ok.1 h
  obtain ⟨h4, h5⟩ := chkG_ok.1 h1
  have hl : (l.filter (lefG l o d)).length ≤ l.length := List.length_filter_le _ _
  have hc : chkG (l.filter (lefG l o d)) = 0 := chkG_ok.2 ⟨by omega, ok_filter h5 _⟩
  refine ⟨l.filter (lefG l o d), drp_vis h5 o d, hc, hl, askG_ok.2 ⟨hc, h2, h3⟩, ?_, fun s => ?_, fun s hs => ⟨left_vis h5 o s d true hs (.inl rfl), fun hd => left_vis h5 o s d false hs (.inr hd)⟩⟩
  · unfold drpG
    rw [drp_vis (ok_filter h5 _) o d]
    exact left_again h5 o d
  · unfold askG
    rw [hc, h1]

set_option maxHeartbeats 8000000 in
set_option maxRecDepth 100000 in
theorem mergeDrops_any (a : Option Addr) (n c : Nat) (l : List Ent) (o s : Int) (d : Bool) (w : World) (hrd : RdN w (.slice a n c) l) :
    Calls Try.prog 7 #[.slice a n c, .int .i64 o, .int .i64 s, .bool d] w fun e w' => e = .returned (.bool true) ∧ Below w.heap.size w w' := by
  have HN := hide hrd.len
  have HR_w := hide hrd
  clear hrd
  go_enter Try.func7, Try.ntmps7
  go_wp2_with fail
  refine (alive_mg w).mono ?_
  rintro e w1 ⟨rfl, b1⟩
  have HB_w1 := hide b1
  have HR_w1 := hide (HR_w.out.carry b1)
  clear b1 HR_w
  by_cases h4 : 400 < n
  · have h4' : (400 : Int) < n := by omega
    go_wp2
    go_ret
    exact ⟨by simp, HB_w1.out⟩
  have h4' : decide ((400 : Int) < n) = false := by simpa using (by omega : ¬ (400 : Int) < n)
  have hn4 : n ≤ 400 := by omega
  obtain ⟨w2, hw2⟩ : ∃ w2, w2 = w1.alloc (.cells #[.slice a n c] 22) := ⟨_, rfl⟩
  have hb2 : Below w1.heap.size w1 w2 := by rw [hw2]; exact (Below.refl _ _).alloc (Nat.le_refl _) _
  have hg := rgreat_mg _ 1 1 _ w2 (by rw [hw2]; exact rdR_one HR_w1.out)
  have HB_w2 := hide (show Below w.heap.size w w2 from HB_w1.out.trans (hb2.mono HB_w1.out.size))
  have HR_w2 := hide (HR_w1.out.carry hb2)
  obtain ⟨A, hA⟩ : ∃ A, A = w1.heap.size := ⟨_, rfl⟩
  rw [← hA] at hg
  clear hb2 HB_w1 HR_w1 h4
  go_wp2_with fail
  rw [← hw2]
  try rw [← hA]
  clear hw2 hA
  refine hg.mono ?_
  rintro e w3 ⟨bg, rfl, -, b3⟩
  have HB_w3 := hide (show Below w.heap.size w w3 from HB_w2.out.trans (b3.mono HB_w2.out.size))
  have HR_w3 := hide (HR_w2.out.carry b3)
  clear hg b3 HB_w2 HR_w2 h4'
  cases bg with
  | true =>
    go_wp2
    go_ret
    exact ⟨by simp, HB_w3.out⟩
  | false =>
    have hc := drop_mg a n c l o d w3 HR_w3.out
    by_cases h : askG l o = 0
    · rw [ansG_ok h, h] at hc
      obtain ⟨D, hD, c1, c2, c3, c4, c5, c6⟩ := drop_all d h
      rw [hD] at hc
      have HC2 := hide c2
      have HC6 := hide c6
      have HX := hide c5
      clear hD c2 c5 c6 h
      go_wp2_with fail
      refine hc.mono ?_
      rintro e w4 ⟨ad, nd, cd, rfl, o4, b4⟩
      have HD_w4 := hide (OwG.rd ecN_len o4)
      have HR_w4 := hide (HR_w3.out.carry b4)
      have HB_w4 := hide (show Below w.heap.size w w4 from HB_w3.out.trans (b4.mono HB_w3.out.size))
      have hle : decide ((n : Int) < nd) = false := by
        have h1 := HD_w4.out.len
        have h2 := HC2.out
        have h3 := HN.out
        simpa using (by omega : ¬ (n : Int) < nd)
      have hle2 : decide (n < nd) = false := by
        have h1 := HD_w4.out.len
        have h2 := HC2.out
        have h3 := HN.out
        simpa using (by omega : ¬ n < nd)
      have HDL := hide (show D.length ≤ 1000000 by have h2 := HC2.out; have h3 := HN.out; omega)
      clear hc o4 b4 HR_w3 HB_w3
      have hc := check_mg ad nd cd D w4 HD_w4.out
      rw [c1] at hc
      go_wp2_with fail
      refine hc.mono ?_
      rintro e w5 ⟨rfl, b5⟩
      clear hc
      have HD_w5 := hide (HD_w4.out.carry b5)
      have HR_w5 := hide (HR_w4.out.carry b5)
      have HB_w5 := hide (show Below w.heap.size w w5 from HB_w4.out.trans (b5.mono HB_w4.out.size))
      clear b5 HB_w4 HD_w4 HR_w4
      clear c1
      have hc := drop_mg ad nd cd D o d w5 HD_w5.out
      rw [ansG_ok c3, c3, c4] at hc
      clear c3 c4
      go_wp2_with fail
      refine hc.mono ?_
      rintro e w6 ⟨a6, n6, c6, rfl, o6, b6⟩
      clear hc
      have HD_w6 := hide (HD_w5.out.carry b6)
      have HR_w6 := hide (HR_w5.out.carry b6)
      have HB_w6 := hide (show Below w.heap.size w w6 from HB_w5.out.trans (b6.mono HB_w5.out.size))
      clear b6 HB_w5 HD_w5 HR_w5
      have hc := sameEntries_bt a6 n6 c6 D ad nd cd D w6 HDL.out (OwG.rd ecN_len o6) HD_w6.out
      rw [decide_eq_true rfl] at hc
      clear o6
      go_wp2_with fail
      refine hc.mono ?_
      rintro e w7 ⟨rfl, b7⟩
      clear hc
      have HD_w7 := hide (HD_w6.out.carry b7)
      have HR_w7 := hide (HR_w6.out.carry b7)
      have HB_w7 := hide (show Below w.heap.size w w7 from HB_w6.out.trans (b7.mono HB_w6.out.size))
      clear b7 HB_w6 HD_w6 HR_w6
      have hL := live_mg a n c l s w7 HR_w7.out
      by_cases h : askG l s = 0
      · rw [ansG_ok h, h] at hL
        have hc := hL
        clear hL
        go_wp2_with fail
        refine hc.mono ?_
        rintro e w8 ⟨a8, n8, c8, rfl, o8, b8⟩
        clear hc
        have HD_w8 := hide (HD_w7.out.carry b8)
        have HR_w8 := hide (HR_w7.out.carry b8)
        have HB_w8 := hide (show Below w.heap.size w w8 from HB_w7.out.trans (b8.mono HB_w7.out.size))
        clear b8 HB_w7 HD_w7 HR_w7
        have H1_w8 := hide (OwG.rd ecN_len o8)
        clear o8
        have hc := live_mg ad nd cd D s w8 HD_w8.out
        rw [ansG_ok (by rw [HX.out, h]), HX.out, h] at hc
        go_wp2_with fail
        refine hc.mono ?_
        rintro e w9 ⟨a9, n9, c9, rfl, o9, b9⟩
        clear hc
        have HD_w9 := hide (HD_w8.out.carry b9)
        have HR_w9 := hide (HR_w8.out.carry b9)
        have H1_w9 := hide (H1_w8.out.carry b9)
        have HB_w9 := hide (show Below w.heap.size w w9 from HB_w8.out.trans (b9.mono HB_w8.out.size))
        clear b9 HB_w8 HD_w8 HR_w8 H1_w8
        have H2_w9 := hide (OwG.rd ecN_len o9)
        clear o9
        have hc := at_mg a n c l s w9 HR_w9.out
        rw [ansG_ok h, h] at hc
        go_wp2_with fail
        refine hc.mono ?_
        rintro e w10 ⟨a10, n10, c10, rfl, o10, b10⟩
        clear hc
        have HD_w10 := hide (HD_w9.out.carry b10)
        have HR_w10 := hide (HR_w9.out.carry b10)
        have H1_w10 := hide (H1_w9.out.carry b10)
        have H2_w10 := hide (H2_w9.out.carry b10)
        have HB_w10 := hide (show Below w.heap.size w w10 from HB_w9.out.trans (b10.mono HB_w9.out.size))
        clear b10 HB_w9 HD_w9 HR_w9 H1_w9 H2_w9
        have H3_w10 := hide (OwG.rd ecN_len o10)
        clear o10
        have hc := at_mg ad nd cd D s w10 HD_w10.out
        rw [ansG_ok (by rw [HX.out, h]), HX.out, h] at hc
        go_wp2_with fail
        refine hc.mono ?_
        rintro e w11 ⟨a11, n11, c11, rfl, o11, b11⟩
        clear hc
        have HD_w11 := hide (HD_w10.out.carry b11)
        have HR_w11 := hide (HR_w10.out.carry b11)
        have H1_w11 := hide (H1_w10.out.carry b11)
        have H2_w11 := hide (H2_w10.out.carry b11)
        have H3_w11 := hide (H3_w10.out.carry b11)
        have HB_w11 := hide (show Below w.heap.size w w11 from HB_w10.out.trans (b11.mono HB_w10.out.size))
        clear b11 HB_w10 HD_w10 HR_w10 H1_w10 H2_w10 H3_w10
        have H4_w11 := hide (OwG.rd ecN_len o11)
        clear o11 h
        by_cases hs : s < o
        · go_wp2
          go_ret
          exact ⟨by simp, HB_w11.out⟩
        · have hs' : decide (s < o) = false := by simpa using hs
          obtain ⟨e1, e2⟩ := HC6.out s (by omega)
          have HL8 := hide (show (lseG s true l).length ≤ 1000000 by
            have := HN.out
            exact Nat.le_trans (Nat.le_trans (List.length_filter_le _ _) (seeG_len s [] l)) (by omega))
          have HL9 := hide (show (lseG s false l).length ≤ 1000000 by
            have := HN.out
            exact Nat.le_trans (Nat.le_trans (List.length_filter_le _ _) (seeG_len s [] l)) (by omega))
          have hc := sameEntries_bt a8 n8 c8 _ a9 n9 c9 _ w11 HL8.out H1_w11.out H2_w11.out
          rw [e1, decide_eq_true rfl] at hc
          have HE2 := hide e2
          clear hs e1 e2
          go_wp2_with fail
          refine hc.mono ?_
          rintro e w12 ⟨rfl, b12⟩
          clear hc
          have H3_w12 := hide (H3_w11.out.carry b12)
          have H4_w12 := hide (H4_w11.out.carry b12)
          have HB_w12 := hide (show Below w.heap.size w w12 from HB_w11.out.trans (b12.mono HB_w11.out.size))
          clear b12 HB_w11 H3_w11 H4_w11
          cases d with
          | true =>
            go_wp2
            go_ret
            exact ⟨by simp, HB_w12.out⟩
          | false =>
            have hc := sameEntries_bt a10 n10 c10 _ a11 n11 c11 _ w12 HL9.out H3_w12.out H4_w12.out
            rw [HE2.out rfl, decide_eq_true rfl] at hc
            go_wp2_with fail
            refine hc.mono ?_
            rintro e w13 ⟨rfl, b13⟩
            clear hc
            have HB_w13 := hide (show Below w.heap.size w w13 from HB_w12.out.trans (b13.mono HB_w12.out.size))
            clear b13 HB_w12 
            go_wp2
            go_ret
            exact ⟨by simp, HB_w13.out⟩
      · rw [ansG_bad h] at hL
        have hM := fun wx hx => live_mg ad nd cd D s wx hx
        have hP := fun wx hx => at_mg a n c l s wx hx
        have hQ := fun wx hx => at_mg ad nd cd D s wx hx
        rw [HX.out, ansG_bad (by rw [HX.out]; exact h)] at hM hQ
        rw [ansG_bad h] at hP
        have HM := hide hM
        have HP := hide hP
        have HQ := hide hQ
        generalize askG l s = x at *
        have h' : (x == 0) = false := by simpa using h
        have hc := hL
        clear hL hM hP hQ
        go_wp2_with fail
        refine hc.mono ?_
        rintro e w8 ⟨a8, n8, c8, rfl, o8, b8⟩
        clear hc
        have HD_w8 := hide (HD_w7.out.carry b8)
        have HR_w8 := hide (HR_w7.out.carry b8)
        have HB_w8 := hide (show Below w.heap.size w w8 from HB_w7.out.trans (b8.mono HB_w7.out.size))
        clear b8 HB_w7 HD_w7 HR_w7
        clear o8
        have hc := HM.out w8 HD_w8.out
        go_wp2_with fail
        refine hc.mono ?_
        rintro e w9 ⟨a9, n9, c9, rfl, o9, b9⟩
        clear hc
        have HD_w9 := hide (HD_w8.out.carry b9)
        have HR_w9 := hide (HR_w8.out.carry b9)
        have HB_w9 := hide (show Below w.heap.size w w9 from HB_w8.out.trans (b9.mono HB_w8.out.size))
        clear b9 HB_w8 HD_w8 HR_w8
        clear o9
        have hc := HP.out w9 HR_w9.out
        go_wp2_with fail
        refine hc.mono ?_
        rintro e w10 ⟨a10, n10, c10, rfl, o10, b10⟩
        clear hc
        have HD_w10 := hide (HD_w9.out.carry b10)
        have HB_w10 := hide (show Below w.heap.size w w10 from HB_w9.out.trans (b10.mono HB_w9.out.size))
        clear b10 HB_w9 HD_w9
        clear o10
        have hc := HQ.out w10 HD_w10.out
        go_wp2_with fail
        refine hc.mono ?_
        rintro e w11 ⟨a11, n11, c11, rfl, o11, b11⟩
        clear hc
        have HB_w11 := hide (show Below w.heap.size w w11 from HB_w10.out.trans (b11.mono HB_w10.out.size))
        clear b11 HB_w10 
        clear o11
        go_wp2
        go_ret
        exact ⟨by simp [h, h'], HB_w11.out⟩
    · rw [ansG_bad h] at hc
      generalize askG l o = x at *
      have h' : (x == 0) = false := by simpa using h
      go_wp2_with fail
      refine hc.mono ?_
      rintro e w4 ⟨ad, nd, cd, rfl, o4, b4⟩
      obtain rfl : nd = 0 := (OwG.rd ecN_len o4).len
      have HB_w4 := hide (show Below w.heap.size w w4 from HB_w3.out.trans (b4.mono HB_w3.out.size))
      clear hc o4 b4
      go_wp2
      go_ret
      exact ⟨by simp, HB_w4.out⟩
end Go.Proofs.Ytdgjinfaopkalaa
