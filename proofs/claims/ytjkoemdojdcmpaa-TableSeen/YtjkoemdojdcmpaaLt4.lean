/-
  What the statement TableSeen answers.
-/
import Derived.Test.YtjkoemdojdcmpaaLt1
namespace Go.Proofs.Ytjkoemdojdcmpaa
open Go.RowKit
set_option linter.unusedVariables false
set_option linter.unusedSimpArgs false

theorem gt_bld {l : List Ent} (h : bldE l = 0) (key : List UInt8) (seq : Int) (hk : ¬ (key.length < 1 ∨ 64 < key.length)) (hs : ¬ (seq < 0 ∨ 1099511627776 < seq)) : gtTE (bldL l) key seq = 0 ∧ ((gtTB (bldL l) key seq = false ∧ gtTV (bldL l) key seq = zE ∧ findK l key seq = none) ∨ ∃ x, gtTB (bldL l) key seq = true ∧ gtTV (bldL l) key seq = x ∧ findK l key seq = some x) := by
  obtain ⟨h1, h2⟩ := rdT_bld h
  have e := gt_e4 (key := key) (seq := seq) h1 hk hs
  refine ⟨e, ?_⟩
  cases hf : findK l key seq with
  | none =>
    have := gt_none e (by rw [h2]; exact hf)
    exact .inl ⟨this.2, this.1, rfl⟩
  | some x =>
    have := gt_some e (by rw [h2]; exact hf)
    exact .inr ⟨x, this.2, this.1, rfl⟩
theorem part_at (l : List Ent) (x y : List UInt8) (k : Nat) (h : k < l.length) (hi : inR x y l[k].1 = true) : ∃ h2 : (partM (l.take k) x y).length < (partM l x y).length, (partM l x y)[(partM (l.take k) x y).length]'h2 = l[k] := by
  have e : partM l x y = partM (l.take k) x y ++ (l[k] :: partM (l.drop (k + 1)) x y) := by
    have e1 : l = l.take k ++ (l[k] :: l.drop (k + 1)) := by rw [List.getElem_cons_drop, List.take_append_drop]
    have e2 : partM (l.take k ++ (l[k] :: l.drop (k + 1))) x y = partM (l.take k) x y ++ (l[k] :: partM (l.drop (k + 1)) x y) := by
      unfold partM
      rw [List.filter_append, List.filter_cons_of_pos (p := fun e : Ent => inR x y e.1) hi]
    exact (congrArg (fun z => partM z x y) e1).trans e2
  have h2 : (partM (l.take k) x y).length < (partM l x y).length := by rw [e, List.length_append, List.length_cons]; omega
  refine ⟨h2, ?_⟩
  have e3 : (partM l x y)[(partM (l.take k) x y).length]? = some l[k] := by rw [e, List.getElem?_append_right (Nat.le_refl _), Nat.sub_self]; rfl
  rw [List.getElem?_eq_getElem h2] at e3
  exact Option.some.inj e3

set_option maxHeartbeats 16000000 in
set_option maxRecDepth 100000 in
theorem tableSeen_any (a : Option Addr) (n c : Nat) (l : List Ent) (key : List UInt8) (seq : Int) (to : List UInt8) (w : World) (hrd : RdN w (.slice a n c) l) :
    Calls Try.prog 7 #[.slice a n c, .string (bs key), .int .i64 seq, .string (bs to)] w fun e w' => e = .returned (.bool true) ∧ Below w.heap.size w w' := by
  have HR := hide hrd
  have HN := hide hrd.len
  clear hrd
  have hs1 := bs_size key
  have hs2 := bs_size to
  obtain ⟨kl, hkl⟩ : ∃ kl, kl = key.length := ⟨_, rfl⟩
  obtain ⟨tl, htl⟩ : ∃ tl, tl = to.length := ⟨_, rfl⟩
  rw [← hkl] at hs1
  rw [← htl] at hs2
  have HKL := hide hkl
  have HTL := hide htl
  clear hkl htl
  go_enter Try.func7, Try.ntmps7
  go_wp2_with fail
  refine (alive_tb w).mono ?_
  rintro e w1 ⟨rfl, b1⟩
  have HB1 := hide b1
  clear b1
  go_wp2_with fail
  refine (heavy_bl a n c l w1 (HR.out.carry HB1.out)).mono ?_
  rintro e w2 ⟨bo, rfl, hb, b2⟩
  have HB2 := hide (show Below w.heap.size w w2 from HB1.out.trans (b2.mono HB1.out.size))
  clear b2 HB1
  cases bo with
  | true =>
    go_wp2
    go_ret
    exact ⟨rfl, HB2.out⟩
  | false =>
  clear hb
  by_cases hg0 : 300 < n
  · have hg0' : (300 : Int) < n := by omega
    go_wp2
    go_ret
    exact ⟨rfl, HB2.out⟩
  have hg0' : decide ((300 : Int) < n) = false := by simpa using (by omega : ¬ (300 : Int) < n)
  by_cases hg1 : 1000 < kl
  · have hg1' : (1000 : Int) < kl := by omega
    go_wp2
    go_ret
    exact ⟨rfl, HB2.out⟩
  have hg1' : decide ((1000 : Int) < kl) = false := by simpa using (by omega : ¬ (1000 : Int) < kl)
  by_cases hg2 : 1000 < tl
  · have hg2' : (1000 : Int) < tl := by omega
    go_wp2
    go_ret
    exact ⟨rfl, HB2.out⟩
  have hg2' : decide ((1000 : Int) < tl) = false := by simpa using (by omega : ¬ (1000 : Int) < tl)
  have hn11 : n ≤ 1100 := by omega
  have hw := build_tb a n c l w2 (HR.out.carry HB2.out)
  unfold mtV at hw
  go_wp2_with fail
  clear hg0' hg1' hg2' hg0 hg1 hg2
  refine hw.mono ?_
  rintro e w3 ⟨v3, rfl, o3, b3⟩
  have HB3 := hide (show Below w.heap.size w w3 from HB2.out.trans (b3.mono HB2.out.size))
  obtain ⟨a3, c3, rfl⟩ := o3.form
  have HR3 := hide o3.rd
  clear hw o3 b3 HB2
  generalize bldM l = M at *
  obtain ⟨w4, hw4⟩ : ∃ w4, w4 = w3.alloc (.cells #[.string { data := #[] }, .int .i64 M.1, .int .i64 M.2.1, .string (bs M.2.2.1), .string (bs M.2.2.2)] 26) := ⟨_, rfl⟩
  have b4 : Below w3.heap.size w3 w4 := by rw [hw4]; exact (Below.refl _ _).alloc (Nat.le_refl _) _
  have HB4 := hide (show Below w.heap.size w w4 from HB3.out.trans (b4.mono HB3.out.size))
  have HR4 := hide (HR3.out.carry b4)
  clear b4 HR3 HB3
  by_cases he : bldE l = 0
  case neg =>
    have hbn : (bldL l).length = 0 := by rw [bld_no he]; rfl
    have he' : (bldE l == 0) = false := by simpa using he
    rw [hbn]
    generalize bldE l = x at *
    clear he hbn
    go_wp2
    rw [← hw4]
    go_ret
    exact ⟨rfl, HB4.out⟩
  have HW := hide he
  have HCH := hide (bld_ok he).2.2.1
  obtain ⟨n3, hn3⟩ : ∃ n3, n3 = (bldL l).length := ⟨_, rfl⟩
  rw [← hn3] at HR4 ⊢
  rw [he]
  clear he hn3
  have hf := get_tb a3 n3 c3 (bldL l) key seq w4 HR4.out
  by_cases g : (kl < 1 ∨ 64 < kl) ∨ (seq < 0 ∨ 1099511627776 < seq)
  · obtain ⟨E, hE, hE0⟩ : ∃ E, gtTE (bldL l) key seq = E ∧ E ≠ 0 := by
      obtain ⟨h1, _⟩ := rdT_bld HW.out
      by_cases gk : key.length < 1 ∨ 64 < key.length
      · exact ⟨3, gt_e2 h1 gk, by decide⟩
      · rcases g with g | g
        · rw [HKL.out] at g; exact absurd g gk
        · exact ⟨2, gt_e3 h1 gk g, by decide⟩
    obtain ⟨f1, f2⟩ := gt_bad (b := bldL l) (key := key) (seq := seq) (by rw [hE]; exact hE0)
    rw [hE, f1, f2] at hf
    have hE' : (E == 0) = false := by simpa using hE0
    clear hE hE0 f1 f2 g
    go_wp2_with fail
    rw [← hw4]
    clear hw4
    refine hf.mono ?_
    rintro e w5 ⟨rfl, b5⟩
    have HB5 := hide b5
    obtain ⟨w6, hw6⟩ : ∃ w6, w6 = w5.alloc (.cells #[.string (bs zE.1), .int .i64 zE.2.1, .bool zE.2.2.1, .string (bs zE.2.2.2)] 31) := ⟨_, rfl⟩
    have HB_w6 := hide (show Below w4.heap.size w4 w6 by rw [hw6]; exact HB5.out.alloc HB5.out.size _)
    clear hf b5 HB5
    have hrg := range_tb a3 n3 c3 (bldL l) key to w6 (HR4.out.carry HB_w6.out)
    obtain ⟨hE1, hE2⟩ := rdT_bld HW.out
    by_cases g2 : 64 < kl ∨ 64 < tl
    · obtain ⟨f1, f2⟩ := rg_e2 (b := bldL l) (x := key) (y := to) hE1 (by rw [← HKL.out, ← HTL.out]; exact g2)
      rw [f1, f2] at hrg
      clear f1 f2 hE1 hE2
      go_wp2_with fail
      rw [← hw6]
      clear hw6 hE'
      refine hrg.mono ?_
      rintro e w7 ⟨a7, n7, c7, rfl, o7, b7⟩
      have hn7 : n7 = 0 := RdG.len (OwG.rd ecN_len o7)
      subst hn7
      have HB7 := hide (show Below w.heap.size w w7 from HB4.out.trans ((HB_w6.out.trans (b7.mono HB_w6.out.size)).mono HB4.out.size))
      clear hrg o7 b7 HB_w6
      by_cases g3 : 64 < kl
      · have g3' : (64 : Int) < kl := by omega
        go_wp2
        go_ret
        exact ⟨rfl, HB7.out⟩
      · have g3' : decide ((64 : Int) < kl) = false := by simpa using (by omega : ¬ (64 : Int) < kl)
        have g4' : (64 : Int) < tl := by omega
        go_wp2
        go_ret
        exact ⟨rfl, HB7.out⟩
    obtain ⟨f1, f2⟩ := rg_e3 (b := bldL l) (x := key) (y := to) hE1 (by rw [← HKL.out, ← HTL.out]; exact g2)
    rw [f1, f2, hE2] at hrg
    clear f1 f2 hE1 hE2 g2
    go_wp2_with fail
    rw [← hw6]
    clear hw6 hE'
    refine hrg.mono ?_
    rintro e w7 ⟨a7, n7, c7, rfl, o7, b7⟩
    have HB7 := hide (show Below w4.heap.size w4 w7 from HB_w6.out.trans (b7.mono HB_w6.out.size))
    have HO7 := hide (OwG.rd ecN_len o7)
    have HN7 := hide (RdG.len HO7.out)
    have hn7b : n7 ≤ 1100 := by rw [HN7.out]; have := part_len l key to; have := HN.out; omega
    clear hrg o7 b7 HB_w6
    go_wp2
    go_loopw [20, 21] (fun t i wr => ∃ k m : Nat, k ≤ n ∧ i = .int .i64 k ∧ t = .int .i64 m ∧ m ≤ 1100 ∧ Hid (m = (partM (l.take k) key to).length) ∧ Hid (Below w7.heap.size w7 wr)) (fun _ i _ => n - (intOf i).toNat)
    case atStart => exact ⟨0, 0, Nat.zero_le _, rfl, rfl, Nat.zero_le _, hide rfl, hide (Below.refl _ _)⟩
    case round =>
      obtain ⟨k, m, hk, rfl, rfl, hm11, hM, hbel⟩ := hrel
      have HBr := hide (show Below w.heap.size w wr from HB4.out.trans ((HB7.out.trans (hbel.out.mono HB7.out.size)).mono HB4.out.size))
      by_cases hlt : k < n
      · have hlt' : (k : Int) < n := by omega
        have hkl : k < l.length := by have := HN.out; omega
        obtain ⟨b, off, e1, q0, q1, q2, q3⟩ := RdN.cells HR.out HBr.out k hkl
        subst e1
        have HT := hide (congrArg List.length (part_take l key to k hkl))
        have HPA := hide (part_at l key to k hkl)
        obtain ⟨u, hu⟩ : ∃ u, u = l[k] := ⟨_, rfl⟩
        rw [← hu] at q0 q1 q2 q3 HT HPA
        clear hu
        have he := bs_emp to
        have hl1 := lt_bs u.1 key
        have hl2 := lt_bs u.1 to
        cases h1 : ltS u.1 key with
        | true =>
          rw [h1] at hl1
          have HIN := hide (in_no1 (y := to) h1)
          clear h1
          rw [HIN.out, if_neg (by simp)] at HT
          go_wp2
          clear q0 q1 q2 q3
          go_roundw
          case rel => exact ⟨k + 1, m, by omega, by go_num, rfl, hm11, hide (by rw [HT.out]; exact hM.out), hbel⟩
          case measure => simp only [intOf]; omega
        | false =>
        rw [h1] at hl1
        by_cases h2 : to = []
        · rw [decide_eq_true h2] at he
          have HIN := hide (in_yes1 h1 h2)
          clear h1 h2
          rw [HIN.out, if_pos rfl] at HT
          obtain ⟨hp1, hp2⟩ := HPA.out HIN.out
          obtain ⟨b9, off9, e9, t0, t1, t2, t3⟩ := RdN.cells HO7.out hbel.out _ hp1
          cases e9
          rw [hp2, ← hM.out] at t0 t1 t2 t3
          have hmn : m < n7 := by rw [HN7.out, hM.out]; exact hp1
          have hmn' : decide ((n7 : Int) ≤ m) = false := by simpa using (by omega : ¬ (n7 : Int) ≤ m)
          have hmn2 : (m : Int) < n7 := by omega
          have heg : ∀ op x y xs ys wx, (eqGuard op 31 x y (.agg xs) (.agg ys)).run Try.prog wx = .ok () wx := fun op x y xs ys wx => run_eqGuard_agg wx op 31 x y xs ys (by kernel_rfl)
          have hst : ∀ wx, (binOp .neq 31 (.agg #[.string (bs u.1), .int .i64 u.2.1, .bool u.2.2.1, .string (bs u.2.2.2)]) (.agg #[.string (bs u.1), .int .i64 u.2.1, .bool u.2.2.1, .string (bs u.2.2.2)])).run Try.prog wx = .ok (.bool false) wx := by
            intro wx
            rw [run_neq_struct, run_equal_ent wx u u, decide_eq_true rfl]; rfl
          clear hp1 hp2
          go_wp2_with fail
          go_quiet (fail)
          clear q0 q1 q2 q3 t0 t1 t2 t3
          go_wp2
          go_roundw
          case rel => exact ⟨k + 1, m + 1, by omega, by go_num, by go_num, by omega, hide (by rw [HT.out, List.length_append, ← hM.out]; rfl), hide (below_drewN hbel.out _)⟩
          case measure => simp only [intOf]; omega
        · rw [decide_eq_false h2] at he
          cases h3 : ltS u.1 to with
          | false =>
            rw [h3] at hl2
            have HIN := hide ((in_two h1 h2).trans h3)
            clear h1 h2 h3
            rw [HIN.out, if_neg (by simp)] at HT
            go_wp2
            clear q0 q1 q2 q3
            go_roundw
            case rel => exact ⟨k + 1, m, by omega, by go_num, rfl, hm11, hide (by rw [HT.out]; exact hM.out), hbel⟩
            case measure => simp only [intOf]; omega
          | true =>
            rw [h3] at hl2
            have HIN := hide ((in_two h1 h2).trans h3)
            clear h1 h2 h3
            rw [HIN.out, if_pos rfl] at HT
            obtain ⟨hp1, hp2⟩ := HPA.out HIN.out
            obtain ⟨b9, off9, e9, t0, t1, t2, t3⟩ := RdN.cells HO7.out hbel.out _ hp1
            cases e9
            rw [hp2, ← hM.out] at t0 t1 t2 t3
            have hmn : m < n7 := by rw [HN7.out, hM.out]; exact hp1
            have hmn' : decide ((n7 : Int) ≤ m) = false := by simpa using (by omega : ¬ (n7 : Int) ≤ m)
            have hmn2 : (m : Int) < n7 := by omega
            have heg : ∀ op x y xs ys wx, (eqGuard op 31 x y (.agg xs) (.agg ys)).run Try.prog wx = .ok () wx := fun op x y xs ys wx => run_eqGuard_agg wx op 31 x y xs ys (by kernel_rfl)
            have hst : ∀ wx, (binOp .neq 31 (.agg #[.string (bs u.1), .int .i64 u.2.1, .bool u.2.2.1, .string (bs u.2.2.2)]) (.agg #[.string (bs u.1), .int .i64 u.2.1, .bool u.2.2.1, .string (bs u.2.2.2)])).run Try.prog wx = .ok (.bool false) wx := by
              intro wx
              rw [run_neq_struct, run_equal_ent wx u u, decide_eq_true rfl]; rfl
            clear hp1 hp2
            go_wp2_with fail
            go_quiet (fail)
            clear q0 q1 q2 q3 t0 t1 t2 t3
            go_wp2
            go_roundw
            case rel => exact ⟨k + 1, m + 1, by omega, by go_num, by go_num, by omega, hide (by rw [HT.out, List.length_append, ← hM.out]; rfl), hide (below_drewN hbel.out _)⟩
            case measure => simp only [intOf]; omega
      · have hd : decide ((k : Int) < n) = false := by simpa using (by omega : ¬ (k : Int) < n)
        have hmn : m = n7 := by rw [hM.out, HN7.out, List.take_of_length_le (by have := HN.out; omega)]
        subst hmn
        go_wp2
        go_ret
        exact ⟨by simp, HBr.out⟩
  obtain ⟨hE, hcase⟩ := gt_bld HW.out key seq (by rw [← HKL.out]; omega) (by omega)
  rw [hE] at hf
  clear g hE
  rcases hcase with ⟨f1, f2, f3⟩ | ⟨x, f1, f2, f3⟩
  · rw [f1, f2] at hf
    have HNO := hide f3
    clear f1 f2 f3
    go_wp2_with fail
    rw [← hw4]
    clear hw4
    refine hf.mono ?_
    rintro e w5 ⟨rfl, b5⟩
    have HB5 := hide b5
    obtain ⟨w6, hw6⟩ : ∃ w6, w6 = w5.alloc (.cells #[.string (bs zE.1), .int .i64 zE.2.1, .bool zE.2.2.1, .string (bs zE.2.2.2)] 31) := ⟨_, rfl⟩
    have HB6 := hide (show Below w4.heap.size w4 w6 by rw [hw6]; exact HB5.out.alloc HB5.out.size _)
    clear hf b5 HB5
    go_wp2
    rw [← hw6]
    clear hw6
    go_loopw [16, 17] (fun t i wr => ∃ k : Nat, k ≤ n ∧ i = .int .i64 k ∧ t = .bool true ∧ Hid (Below w4.heap.size w4 wr)) (fun _ i _ => n - (intOf i).toNat)
    case atStart => exact ⟨0, Nat.zero_le _, rfl, rfl, HB6⟩
    case round =>
      obtain ⟨k, hk, rfl, rfl, hbel⟩ := hrel
      clear HB6
      by_cases hlt : k < n
      · have hlt' : (k : Int) < n := by omega
        have hkl : k < l.length := by have := HN.out; omega
        obtain ⟨b, off, e1, q0, q1, q2, q3⟩ := RdN.cells HR.out (HB4.out.trans (hbel.out.mono HB4.out.size)) k hkl
        subst e1
        have HM := hide (List.getElem_mem hkl)
        obtain ⟨y, hy⟩ : ∃ y : Ent, y = l[k] := ⟨_, rfl⟩
        rw [← hy] at q0 q1 q2 q3 HM
        clear hy hkl
        have heq := eqK_bs y.1 key
        by_cases h1 : y.1 = key
        · rw [decide_eq_true h1] at heq
          have h2 : decide (y.2.1 ≤ seq) = false := decide_eq_false (fun h2 => find_no HNO.out HM.out h1 h2)
          clear h1
          go_wp2
          go_quiet (fail)
          have HBd := hide (show Below w4.heap.size w4 (wr.drewN nq) from belowX_drewN hbel.out _)
          generalize wr.drewN nq = we at *
          go_wp2
          go_quiet (fail)
          go_wp2
          go_roundw
          case rel => exact ⟨k + 1, by omega, by go_num, rfl, hide (belowX_drewN HBd.out _)⟩
          case measure => simp only [intOf]; omega
        · rw [decide_eq_false h1] at heq
          clear h1
          go_wp2
          go_quiet (fail)
          have HBd := hide (show Below w4.heap.size w4 (wr.drewN nq) from belowX_drewN hbel.out _)
          generalize wr.drewN nq = we at *
          go_wp2
          go_quiet (fail)
          go_wp2
          go_roundw
          case rel => exact ⟨k + 1, by omega, by go_num, rfl, hide (belowX_drewN HBd.out _)⟩
          case measure => simp only [intOf]; omega
      · have hd : decide ((k : Int) < n) = false := by simpa using (by omega : ¬ (k : Int) < n)
        obtain ⟨w6, hw6⟩ : ∃ w6, w6 = wr := ⟨_, rfl⟩
        subst hw6
        have HB_w6 := hbel
        have hrg := range_tb a3 n3 c3 (bldL l) key to w6 (HR4.out.carry HB_w6.out)
        obtain ⟨hE1, hE2⟩ := rdT_bld HW.out
        by_cases g2 : 64 < kl ∨ 64 < tl
        · obtain ⟨f1, f2⟩ := rg_e2 (b := bldL l) (x := key) (y := to) hE1 (by rw [← HKL.out, ← HTL.out]; exact g2)
          rw [f1, f2] at hrg
          clear f1 f2 hE1 hE2
          go_wp2_with fail
          refine hrg.mono ?_
          rintro e w7 ⟨a7, n7, c7, rfl, o7, b7⟩
          have hn7 : n7 = 0 := RdG.len (OwG.rd ecN_len o7)
          subst hn7
          have HB7 := hide (show Below w.heap.size w w7 from HB4.out.trans ((HB_w6.out.trans (b7.mono HB_w6.out.size)).mono HB4.out.size))
          clear hrg o7 b7 HB_w6
          by_cases g3 : 64 < kl
          · have g3' : (64 : Int) < kl := by omega
            go_wp2
            go_ret
            exact ⟨rfl, HB7.out⟩
          · have g3' : decide ((64 : Int) < kl) = false := by simpa using (by omega : ¬ (64 : Int) < kl)
            have g4' : (64 : Int) < tl := by omega
            go_wp2
            go_ret
            exact ⟨rfl, HB7.out⟩
        obtain ⟨f1, f2⟩ := rg_e3 (b := bldL l) (x := key) (y := to) hE1 (by rw [← HKL.out, ← HTL.out]; exact g2)
        rw [f1, f2, hE2] at hrg
        clear f1 f2 hE1 hE2 g2
        go_wp2_with fail
        refine hrg.mono ?_
        rintro e w7 ⟨a7, n7, c7, rfl, o7, b7⟩
        have HB7 := hide (show Below w4.heap.size w4 w7 from HB_w6.out.trans (b7.mono HB_w6.out.size))
        have HO7 := hide (OwG.rd ecN_len o7)
        have HN7 := hide (RdG.len HO7.out)
        have hn7b : n7 ≤ 1100 := by rw [HN7.out]; have := part_len l key to; have := HN.out; omega
        clear hrg o7 b7 HB_w6
        go_wp2
        go_loopw [20, 21] (fun t i wr => ∃ k m : Nat, k ≤ n ∧ i = .int .i64 k ∧ t = .int .i64 m ∧ m ≤ 1100 ∧ Hid (m = (partM (l.take k) key to).length) ∧ Hid (Below w7.heap.size w7 wr)) (fun _ i _ => n - (intOf i).toNat)
        case atStart => exact ⟨0, 0, Nat.zero_le _, rfl, rfl, Nat.zero_le _, hide rfl, hide (Below.refl _ _)⟩
        case round =>
          obtain ⟨k, m, hk, rfl, rfl, hm11, hM, hbel⟩ := hrel
          have HBr := hide (show Below w.heap.size w wr from HB4.out.trans ((HB7.out.trans (hbel.out.mono HB7.out.size)).mono HB4.out.size))
          by_cases hlt : k < n
          · have hlt' : (k : Int) < n := by omega
            have hkl : k < l.length := by have := HN.out; omega
            obtain ⟨b, off, e1, q0, q1, q2, q3⟩ := RdN.cells HR.out HBr.out k hkl
            subst e1
            have HT := hide (congrArg List.length (part_take l key to k hkl))
            have HPA := hide (part_at l key to k hkl)
            obtain ⟨u, hu⟩ : ∃ u, u = l[k] := ⟨_, rfl⟩
            rw [← hu] at q0 q1 q2 q3 HT HPA
            clear hu
            have he := bs_emp to
            have hl1 := lt_bs u.1 key
            have hl2 := lt_bs u.1 to
            cases h1 : ltS u.1 key with
            | true =>
              rw [h1] at hl1
              have HIN := hide (in_no1 (y := to) h1)
              clear h1
              rw [HIN.out, if_neg (by simp)] at HT
              go_wp2
              clear q0 q1 q2 q3
              go_roundw
              case rel => exact ⟨k + 1, m, by omega, by go_num, rfl, hm11, hide (by rw [HT.out]; exact hM.out), hbel⟩
              case measure => simp only [intOf]; omega
            | false =>
            rw [h1] at hl1
            by_cases h2 : to = []
            · rw [decide_eq_true h2] at he
              have HIN := hide (in_yes1 h1 h2)
              clear h1 h2
              rw [HIN.out, if_pos rfl] at HT
              obtain ⟨hp1, hp2⟩ := HPA.out HIN.out
              obtain ⟨b9, off9, e9, t0, t1, t2, t3⟩ := RdN.cells HO7.out hbel.out _ hp1
              cases e9
              rw [hp2, ← hM.out] at t0 t1 t2 t3
              have hmn : m < n7 := by rw [HN7.out, hM.out]; exact hp1
              have hmn' : decide ((n7 : Int) ≤ m) = false := by simpa using (by omega : ¬ (n7 : Int) ≤ m)
              have hmn2 : (m : Int) < n7 := by omega
              have heg : ∀ op x y xs ys wx, (eqGuard op 31 x y (.agg xs) (.agg ys)).run Try.prog wx = .ok () wx := fun op x y xs ys wx => run_eqGuard_agg wx op 31 x y xs ys (by kernel_rfl)
              have hst : ∀ wx, (binOp .neq 31 (.agg #[.string (bs u.1), .int .i64 u.2.1, .bool u.2.2.1, .string (bs u.2.2.2)]) (.agg #[.string (bs u.1), .int .i64 u.2.1, .bool u.2.2.1, .string (bs u.2.2.2)])).run Try.prog wx = .ok (.bool false) wx := by
                intro wx
                rw [run_neq_struct, run_equal_ent wx u u, decide_eq_true rfl]; rfl
              clear hp1 hp2
              go_wp2_with fail
              go_quiet (fail)
              clear q0 q1 q2 q3 t0 t1 t2 t3
              go_wp2
              go_roundw
              case rel => exact ⟨k + 1, m + 1, by omega, by go_num, by go_num, by omega, hide (by rw [HT.out, List.length_append, ← hM.out]; rfl), hide (below_drewN hbel.out _)⟩
              case measure => simp only [intOf]; omega
            · rw [decide_eq_false h2] at he
              cases h3 : ltS u.1 to with
              | false =>
                rw [h3] at hl2
                have HIN := hide ((in_two h1 h2).trans h3)
                clear h1 h2 h3
                rw [HIN.out, if_neg (by simp)] at HT
                go_wp2
                clear q0 q1 q2 q3
                go_roundw
                case rel => exact ⟨k + 1, m, by omega, by go_num, rfl, hm11, hide (by rw [HT.out]; exact hM.out), hbel⟩
                case measure => simp only [intOf]; omega
              | true =>
                rw [h3] at hl2
                have HIN := hide ((in_two h1 h2).trans h3)
                clear h1 h2 h3
                rw [HIN.out, if_pos rfl] at HT
                obtain ⟨hp1, hp2⟩ := HPA.out HIN.out
                obtain ⟨b9, off9, e9, t0, t1, t2, t3⟩ := RdN.cells HO7.out hbel.out _ hp1
                cases e9
                rw [hp2, ← hM.out] at t0 t1 t2 t3
                have hmn : m < n7 := by rw [HN7.out, hM.out]; exact hp1
                have hmn' : decide ((n7 : Int) ≤ m) = false := by simpa using (by omega : ¬ (n7 : Int) ≤ m)
                have hmn2 : (m : Int) < n7 := by omega
                have heg : ∀ op x y xs ys wx, (eqGuard op 31 x y (.agg xs) (.agg ys)).run Try.prog wx = .ok () wx := fun op x y xs ys wx => run_eqGuard_agg wx op 31 x y xs ys (by kernel_rfl)
                have hst : ∀ wx, (binOp .neq 31 (.agg #[.string (bs u.1), .int .i64 u.2.1, .bool u.2.2.1, .string (bs u.2.2.2)]) (.agg #[.string (bs u.1), .int .i64 u.2.1, .bool u.2.2.1, .string (bs u.2.2.2)])).run Try.prog wx = .ok (.bool false) wx := by
                  intro wx
                  rw [run_neq_struct, run_equal_ent wx u u, decide_eq_true rfl]; rfl
                clear hp1 hp2
                go_wp2_with fail
                go_quiet (fail)
                clear q0 q1 q2 q3 t0 t1 t2 t3
                go_wp2
                go_roundw
                case rel => exact ⟨k + 1, m + 1, by omega, by go_num, by go_num, by omega, hide (by rw [HT.out, List.length_append, ← hM.out]; rfl), hide (below_drewN hbel.out _)⟩
                case measure => simp only [intOf]; omega
          · have hd : decide ((k : Int) < n) = false := by simpa using (by omega : ¬ (k : Int) < n)
            have hmn : m = n7 := by rw [hM.out, HN7.out, List.take_of_length_le (by have := HN.out; omega)]
            subst hmn
            go_wp2
            go_ret
            exact ⟨by simp, HBr.out⟩
  · rw [f1, f2] at hf
    have HMO := hide (fun y hy h1 h2 => find_most HCH.out f3 (y := y) hy h1 h2)
    have HME := hide (find_mem f3)
    clear f1 f2 f3
    go_wp2_with fail
    rw [← hw4]
    clear hw4
    refine hf.mono ?_
    rintro e w5 ⟨rfl, b5⟩
    have HB5 := hide b5
    obtain ⟨w6, hw6⟩ : ∃ w6, w6 = w5.alloc (.cells #[.string (bs x.1), .int .i64 x.2.1, .bool x.2.2.1, .string (bs x.2.2.2)] 31) := ⟨_, rfl⟩
    have HB6 := hide (show Below w4.heap.size w4 w6 by rw [hw6]; exact HB5.out.alloc HB5.out.size _)
    have HX6 := hide (show EntAt w6 w5.heap.size x by rw [hw6]; exact EntAt.new w5 x)
    obtain ⟨X, hX⟩ : ∃ X, X = w5.heap.size := ⟨_, rfl⟩
    rw [← hX] at HX6
    clear hf b5 HB5
    go_wp2
    rw [← hw6]
    try rw [← hX]
    clear hw6 hX
    go_loopw [16, 17] (fun t i wr => ∃ k : Nat, k ≤ n ∧ i = .int .i64 k ∧ ∃ bt, t = .bool bt ∧ Hid (bt = decide (x ∈ l.take k)) ∧ Hid (EntAt wr X x) ∧ Hid (Below w4.heap.size w4 wr)) (fun _ i _ => n - (intOf i).toNat)
    case atStart => exact ⟨0, Nat.zero_le _, rfl, false, rfl, hide (by simp), HX6, HB6⟩
    case round =>
      obtain ⟨k, hk, rfl, bt, rfl, hbt, hat, hbel⟩ := hrel
      clear HX6 HB6
      by_cases hlt : k < n
      · have hlt' : (k : Int) < n := by omega
        have hkl : k < l.length := by have := HN.out; omega
        obtain ⟨b, off, e1, q0, q1, q2, q3⟩ := RdN.cells HR.out (HB4.out.trans (hbel.out.mono HB4.out.size)) k hkl
        subst e1
        have HM := hide (List.getElem_mem hkl)
        have HT := hide (mem_take_succ x l k hkl)
        rw [← hbt.out] at HT
        obtain ⟨y, hy⟩ : ∃ y : Ent, y = l[k] := ⟨_, rfl⟩
        rw [← hy] at q0 q1 q2 q3 HM HT
        clear hy hkl hbt
        obtain ⟨x0, x1, x2, x3⟩ := hat.out.cells
        have heq := eqK_bs y.1 key
        have heg : ∀ op x y xs ys wx, (eqGuard op 31 x y (.agg xs) (.agg ys)).run Try.prog wx = .ok () wx := fun op x y xs ys wx => run_eqGuard_agg wx op 31 x y xs ys (by kernel_rfl)
        have hst := fun wx => eqS_any y x wx
        by_cases h1 : y.1 = key
        · rw [decide_eq_true h1] at heq
          by_cases h2 : y.2.1 ≤ seq
          · have h3 : decide (x.2.1 < y.2.1) = false := decide_eq_false (by have := HMO.out y HM.out h1 h2; omega)
            clear h1
            go_wp2
            go_quiet (fail)
            have HBd := hide (show Below w4.heap.size w4 (wr.drewN nq) from belowX_drewN hbel.out _)
            have HXd := hide (show EntAt (wr.drewN nq) X x from hat.out)
            have r0 : (wr.drewN nq).cell? ⟨b, off + k * 4, none⟩ = some (.string (bs y.1)) := q0
            have r1 : (wr.drewN nq).cell? ⟨b, off + k * 4 + 1, none⟩ = some (.int .i64 y.2.1) := q1
            have r2 : (wr.drewN nq).cell? ⟨b, off + k * 4 + 2, none⟩ = some (.bool y.2.2.1) := q2
            have r3 : (wr.drewN nq).cell? ⟨b, off + k * 4 + 3, none⟩ = some (.string (bs y.2.2.2)) := q3
            clear x0 x1 x2 x3 q0 q1 q2 q3
            generalize wr.drewN nq = we at *
            obtain ⟨x0, x1, x2, x3⟩ := HXd.out.cells
            cases bt with
            | true =>
              go_wp2
              go_quiet (fail)
              go_wp2
              go_roundw
              case rel => exact ⟨k + 1, by omega, by go_num, _, rfl, hide (by rw [HT.out]; try simp), hide (show EntAt (we.drewN _) X x from HXd.out), hide (belowX_drewN HBd.out _)⟩
              case measure => simp only [intOf]; omega
            | false =>
              rw [Bool.false_or] at HT
              generalize decide (y = x) = dd at *
              go_wp2
              go_quiet (fail)
              go_wp2
              go_roundw
              case rel => exact ⟨k + 1, by omega, by go_num, _, rfl, hide (by rw [HT.out]; try simp), hide (show EntAt (we.drewN _) X x from HXd.out), hide (belowX_drewN HBd.out _)⟩
              case measure => simp only [intOf]; omega
          · have h2' : decide (y.2.1 ≤ seq) = false := decide_eq_false h2
            clear h1 h2
            go_wp2
            go_quiet (fail)
            have HBd := hide (show Below w4.heap.size w4 (wr.drewN nq) from belowX_drewN hbel.out _)
            have HXd := hide (show EntAt (wr.drewN nq) X x from hat.out)
            have r0 : (wr.drewN nq).cell? ⟨b, off + k * 4, none⟩ = some (.string (bs y.1)) := q0
            have r1 : (wr.drewN nq).cell? ⟨b, off + k * 4 + 1, none⟩ = some (.int .i64 y.2.1) := q1
            have r2 : (wr.drewN nq).cell? ⟨b, off + k * 4 + 2, none⟩ = some (.bool y.2.2.1) := q2
            have r3 : (wr.drewN nq).cell? ⟨b, off + k * 4 + 3, none⟩ = some (.string (bs y.2.2.2)) := q3
            clear x0 x1 x2 x3 q0 q1 q2 q3
            generalize wr.drewN nq = we at *
            obtain ⟨x0, x1, x2, x3⟩ := HXd.out.cells
            cases bt with
            | true =>
              go_wp2
              go_quiet (fail)
              go_wp2
              go_roundw
              case rel => exact ⟨k + 1, by omega, by go_num, _, rfl, hide (by rw [HT.out]; try simp), hide (show EntAt (we.drewN _) X x from HXd.out), hide (belowX_drewN HBd.out _)⟩
              case measure => simp only [intOf]; omega
            | false =>
              rw [Bool.false_or] at HT
              generalize decide (y = x) = dd at *
              go_wp2
              go_quiet (fail)
              go_wp2
              go_roundw
              case rel => exact ⟨k + 1, by omega, by go_num, _, rfl, hide (by rw [HT.out]; try simp), hide (show EntAt (we.drewN _) X x from HXd.out), hide (belowX_drewN HBd.out _)⟩
              case measure => simp only [intOf]; omega
        · rw [decide_eq_false h1] at heq
          clear h1
          go_wp2
          go_quiet (fail)
          have HBd := hide (show Below w4.heap.size w4 (wr.drewN nq) from belowX_drewN hbel.out _)
          have HXd := hide (show EntAt (wr.drewN nq) X x from hat.out)
          have r0 : (wr.drewN nq).cell? ⟨b, off + k * 4, none⟩ = some (.string (bs y.1)) := q0
          have r1 : (wr.drewN nq).cell? ⟨b, off + k * 4 + 1, none⟩ = some (.int .i64 y.2.1) := q1
          have r2 : (wr.drewN nq).cell? ⟨b, off + k * 4 + 2, none⟩ = some (.bool y.2.2.1) := q2
          have r3 : (wr.drewN nq).cell? ⟨b, off + k * 4 + 3, none⟩ = some (.string (bs y.2.2.2)) := q3
          clear x0 x1 x2 x3 q0 q1 q2 q3
          generalize wr.drewN nq = we at *
          obtain ⟨x0, x1, x2, x3⟩ := HXd.out.cells
          cases bt with
          | true =>
            go_wp2
            go_quiet (fail)
            go_wp2
            go_roundw
            case rel => exact ⟨k + 1, by omega, by go_num, _, rfl, hide (by rw [HT.out]; try simp), hide (show EntAt (we.drewN _) X x from HXd.out), hide (belowX_drewN HBd.out _)⟩
            case measure => simp only [intOf]; omega
          | false =>
            rw [Bool.false_or] at HT
            generalize decide (y = x) = dd at *
            go_wp2
            go_quiet (fail)
            go_wp2
            go_roundw
            case rel => exact ⟨k + 1, by omega, by go_num, _, rfl, hide (by rw [HT.out]; try simp), hide (show EntAt (we.drewN _) X x from HXd.out), hide (belowX_drewN HBd.out _)⟩
            case measure => simp only [intOf]; omega
      · have hd : decide ((k : Int) < n) = false := by simpa using (by omega : ¬ (k : Int) < n)
        obtain ⟨w6, hw6⟩ : ∃ w6, w6 = wr := ⟨_, rfl⟩
        subst hw6
        have HB_w6 := hbel
        have hbtt : bt = true := by
          rw [hbt.out, List.take_of_length_le (by have := HN.out; omega)]
          exact decide_eq_true HME.out.1
        subst hbtt
        obtain ⟨x0, x1, x2, x3⟩ := hat.out.cells
        have heq := eqK_bs x.1 key
        rw [decide_eq_true HME.out.2.1] at heq
        have h3 : decide (seq < x.2.1) = false := decide_eq_false (by have := HME.out.2.2; omega)
        have hrg := range_tb a3 n3 c3 (bldL l) key to w6 (HR4.out.carry HB_w6.out)
        obtain ⟨hE1, hE2⟩ := rdT_bld HW.out
        by_cases g2 : 64 < kl ∨ 64 < tl
        · obtain ⟨f1, f2⟩ := rg_e2 (b := bldL l) (x := key) (y := to) hE1 (by rw [← HKL.out, ← HTL.out]; exact g2)
          rw [f1, f2] at hrg
          clear f1 f2 hE1 hE2
          go_wp2_with fail
          clear x0 x1 x2 x3 heq h3
          refine hrg.mono ?_
          rintro e w7 ⟨a7, n7, c7, rfl, o7, b7⟩
          have hn7 : n7 = 0 := RdG.len (OwG.rd ecN_len o7)
          subst hn7
          have HB7 := hide (show Below w.heap.size w w7 from HB4.out.trans ((HB_w6.out.trans (b7.mono HB_w6.out.size)).mono HB4.out.size))
          clear hrg o7 b7 HB_w6
          by_cases g3 : 64 < kl
          · have g3' : (64 : Int) < kl := by omega
            go_wp2
            go_ret
            exact ⟨rfl, HB7.out⟩
          · have g3' : decide ((64 : Int) < kl) = false := by simpa using (by omega : ¬ (64 : Int) < kl)
            have g4' : (64 : Int) < tl := by omega
            go_wp2
            go_ret
            exact ⟨rfl, HB7.out⟩
        obtain ⟨f1, f2⟩ := rg_e3 (b := bldL l) (x := key) (y := to) hE1 (by rw [← HKL.out, ← HTL.out]; exact g2)
        rw [f1, f2, hE2] at hrg
        clear f1 f2 hE1 hE2 g2
        go_wp2_with fail
        clear x0 x1 x2 x3 heq h3
        refine hrg.mono ?_
        rintro e w7 ⟨a7, n7, c7, rfl, o7, b7⟩
        have HB7 := hide (show Below w4.heap.size w4 w7 from HB_w6.out.trans (b7.mono HB_w6.out.size))
        have HO7 := hide (OwG.rd ecN_len o7)
        have HN7 := hide (RdG.len HO7.out)
        have hn7b : n7 ≤ 1100 := by rw [HN7.out]; have := part_len l key to; have := HN.out; omega
        clear hrg o7 b7 HB_w6
        go_wp2
        go_loopw [20, 21] (fun t i wr => ∃ k m : Nat, k ≤ n ∧ i = .int .i64 k ∧ t = .int .i64 m ∧ m ≤ 1100 ∧ Hid (m = (partM (l.take k) key to).length) ∧ Hid (Below w7.heap.size w7 wr)) (fun _ i _ => n - (intOf i).toNat)
        case atStart => exact ⟨0, 0, Nat.zero_le _, rfl, rfl, Nat.zero_le _, hide rfl, hide (Below.refl _ _)⟩
        case round =>
          obtain ⟨k, m, hk, rfl, rfl, hm11, hM, hbel⟩ := hrel
          have HBr := hide (show Below w.heap.size w wr from HB4.out.trans ((HB7.out.trans (hbel.out.mono HB7.out.size)).mono HB4.out.size))
          by_cases hlt : k < n
          · have hlt' : (k : Int) < n := by omega
            have hkl : k < l.length := by have := HN.out; omega
            obtain ⟨b, off, e1, q0, q1, q2, q3⟩ := RdN.cells HR.out HBr.out k hkl
            subst e1
            have HT := hide (congrArg List.length (part_take l key to k hkl))
            have HPA := hide (part_at l key to k hkl)
            obtain ⟨u, hu⟩ : ∃ u, u = l[k] := ⟨_, rfl⟩
            rw [← hu] at q0 q1 q2 q3 HT HPA
            clear hu
            have he := bs_emp to
            have hl1 := lt_bs u.1 key
            have hl2 := lt_bs u.1 to
            cases h1 : ltS u.1 key with
            | true =>
              rw [h1] at hl1
              have HIN := hide (in_no1 (y := to) h1)
              clear h1
              rw [HIN.out, if_neg (by simp)] at HT
              go_wp2
              clear q0 q1 q2 q3
              go_roundw
              case rel => exact ⟨k + 1, m, by omega, by go_num, rfl, hm11, hide (by rw [HT.out]; exact hM.out), hbel⟩
              case measure => simp only [intOf]; omega
            | false =>
            rw [h1] at hl1
            by_cases h2 : to = []
            · rw [decide_eq_true h2] at he
              have HIN := hide (in_yes1 h1 h2)
              clear h1 h2
              rw [HIN.out, if_pos rfl] at HT
              obtain ⟨hp1, hp2⟩ := HPA.out HIN.out
              obtain ⟨b9, off9, e9, t0, t1, t2, t3⟩ := RdN.cells HO7.out hbel.out _ hp1
              cases e9
              rw [hp2, ← hM.out] at t0 t1 t2 t3
              have hmn : m < n7 := by rw [HN7.out, hM.out]; exact hp1
              have hmn' : decide ((n7 : Int) ≤ m) = false := by simpa using (by omega : ¬ (n7 : Int) ≤ m)
              have hmn2 : (m : Int) < n7 := by omega
              have heg : ∀ op x y xs ys wx, (eqGuard op 31 x y (.agg xs) (.agg ys)).run Try.prog wx = .ok () wx := fun op x y xs ys wx => run_eqGuard_agg wx op 31 x y xs ys (by kernel_rfl)
              have hst : ∀ wx, (binOp .neq 31 (.agg #[.string (bs u.1), .int .i64 u.2.1, .bool u.2.2.1, .string (bs u.2.2.2)]) (.agg #[.string (bs u.1), .int .i64 u.2.1, .bool u.2.2.1, .string (bs u.2.2.2)])).run Try.prog wx = .ok (.bool false) wx := by
                intro wx
                rw [run_neq_struct, run_equal_ent wx u u, decide_eq_true rfl]; rfl
              clear hp1 hp2
              go_wp2_with fail
              go_quiet (fail)
              clear q0 q1 q2 q3 t0 t1 t2 t3
              go_wp2
              go_roundw
              case rel => exact ⟨k + 1, m + 1, by omega, by go_num, by go_num, by omega, hide (by rw [HT.out, List.length_append, ← hM.out]; rfl), hide (below_drewN hbel.out _)⟩
              case measure => simp only [intOf]; omega
            · rw [decide_eq_false h2] at he
              cases h3 : ltS u.1 to with
              | false =>
                rw [h3] at hl2
                have HIN := hide ((in_two h1 h2).trans h3)
                clear h1 h2 h3
                rw [HIN.out, if_neg (by simp)] at HT
                go_wp2
                clear q0 q1 q2 q3
                go_roundw
                case rel => exact ⟨k + 1, m, by omega, by go_num, rfl, hm11, hide (by rw [HT.out]; exact hM.out), hbel⟩
                case measure => simp only [intOf]; omega
              | true =>
                rw [h3] at hl2
                have HIN := hide ((in_two h1 h2).trans h3)
                clear h1 h2 h3
                rw [HIN.out, if_pos rfl] at HT
                obtain ⟨hp1, hp2⟩ := HPA.out HIN.out
                obtain ⟨b9, off9, e9, t0, t1, t2, t3⟩ := RdN.cells HO7.out hbel.out _ hp1
                cases e9
                rw [hp2, ← hM.out] at t0 t1 t2 t3
                have hmn : m < n7 := by rw [HN7.out, hM.out]; exact hp1
                have hmn' : decide ((n7 : Int) ≤ m) = false := by simpa using (by omega : ¬ (n7 : Int) ≤ m)
                have hmn2 : (m : Int) < n7 := by omega
                have heg : ∀ op x y xs ys wx, (eqGuard op 31 x y (.agg xs) (.agg ys)).run Try.prog wx = .ok () wx := fun op x y xs ys wx => run_eqGuard_agg wx op 31 x y xs ys (by kernel_rfl)
                have hst : ∀ wx, (binOp .neq 31 (.agg #[.string (bs u.1), .int .i64 u.2.1, .bool u.2.2.1, .string (bs u.2.2.2)]) (.agg #[.string (bs u.1), .int .i64 u.2.1, .bool u.2.2.1, .string (bs u.2.2.2)])).run Try.prog wx = .ok (.bool false) wx := by
                  intro wx
                  rw [run_neq_struct, run_equal_ent wx u u, decide_eq_true rfl]; rfl
                clear hp1 hp2
                go_wp2_with fail
                go_quiet (fail)
                clear q0 q1 q2 q3 t0 t1 t2 t3
                go_wp2
                go_roundw
                case rel => exact ⟨k + 1, m + 1, by omega, by go_num, by go_num, by omega, hide (by rw [HT.out, List.length_append, ← hM.out]; rfl), hide (below_drewN hbel.out _)⟩
                case measure => simp only [intOf]; omega
          · have hd : decide ((k : Int) < n) = false := by simpa using (by omega : ¬ (k : Int) < n)
            have hmn : m = n7 := by rw [hM.out, HN7.out, List.take_of_length_le (by have := HN.out; omega)]
            subst hmn
            go_wp2
            go_ret
            exact ⟨by simp, HBr.out⟩

end Go.Proofs.Ytjkoemdojdcmpaa
