/-
  The statement SieveOrder: the order of keys does not count; more bits let no fewer keys through; none let none through.
-/
import Derived.Test.YtmihgljhahkhcaaLs3
namespace Go.Proofs.Ytmihgljhahkhcaa
open Go.RowKit
set_option linter.unusedVariables false
set_option linter.unusedSimpArgs false

theorem app_tx {w : World} {base : Nat} {v : Value} {l : List (List UInt8)} (h : OwTx w base v l) (hb : base ≤ w.heap.size) (hl : l.length ≤ 1000000) (s : List UInt8) :
    ∃ g c w', (Builtin.append_ #[28, 28] 28 #[v, .slice (some ⟨w.heap.size, 0, none⟩) 1 1]).run Try.prog (w.alloc (.cells #[.string (bs s)] 9)) = .ok (.slice (some ⟨g, 0, none⟩) (l.length + 1) c) w' ∧
      OwTx w' base (.slice (some ⟨g, 0, none⟩) (l.length + 1) c) (l ++ [s]) ∧ Below base w w' := by
  obtain ⟨g, c, w', h1, h2, h3, _⟩ := app_oneG (P := Try.prog) ecT_len (by decide) (by intro x u hu; simp [ecT] at hu; subst hu; rfl) Try.underlying28 Try.infoTx rfl h hb (by omega) (by unfold maxLen; omega) s #[.string (bs s)] rfl
  exact ⟨g, c, w', h1, h2, h3⟩
def rotK (ks : List (List UInt8)) (r : Nat) : List (List UInt8) := ks.drop r ++ ks.take r
theorem rotK_len (ks : List (List UInt8)) {r : Nat} (hr : r ≤ ks.length) : (rotK ks r).length = ks.length := by
  unfold rotK
  rw [List.length_append, List.length_drop, List.length_take]
  omega
theorem rotK_at (ks : List (List UInt8)) {r k : Nat} (hr : r < ks.length) (hk : k < ks.length) : (rotK ks r)[k]? = ks[(k + r) % ks.length]? := by
  unfold rotK
  by_cases h : k < ks.length - r
  · rw [List.getElem?_append_left (by rw [List.length_drop]; exact h), List.getElem?_drop, Nat.mod_eq_of_lt (by omega), Nat.add_comm]
  · have e : (k + r) % ks.length = k - (ks.length - r) := by
      rw [Nat.mod_eq_sub_mod (by omega), Nat.mod_eq_of_lt (by omega)]
      omega
    rw [List.getElem?_append_right (by rw [List.length_drop]; omega), List.length_drop, List.getElem?_take_of_lt (by omega), e]
theorem rotK_take (ks : List (List UInt8)) {r k n i : Nat} (hn : n = ks.length) (hr : r < n) (hk : k < n) (hi : i = (k + r) % n) (h2 : i < ks.length) : (rotK ks r).take (k + 1) = (rotK ks r).take k ++ [ks[i]] := by
  subst hn
  subst hi
  rw [List.take_add_one, rotK_at ks hr hk, List.getElem?_eq_getElem h2]
  rfl
theorem rot_num {n k r bn : Nat} (hn0 : 0 < n) (hn1 : n ≤ 1100) (hk : k < n) (hr : r = bn % n) : ∃ i : Nat, i = (k + r) % n ∧ i < n ∧ r < n ∧ ((bn : Int) % (n : Int)) = (r : Int) ∧ (((k : Int) + (r : Int)) % (n : Int)) = (i : Int) :=
  ⟨(k + r) % n, rfl, Nat.mod_lt _ hn0, by rw [hr]; exact Nat.mod_lt _ hn0, by rw [hr, Int.natCast_emod], by rw [Int.natCast_emod, Int.natCast_add]⟩

theorem OwY.apart {w : World} {base g n c : Nat} {l : List UInt8} (h : OwY w base (.slice (some ⟨g, 0, none⟩) n c) l) {g' : Nat} (hne : g ≠ g') (j : Nat) (v : Value) : OwY (w.setCell ⟨g', j, none⟩ v) base (.slice (some ⟨g, 0, none⟩) n c) l := by
  refine ⟨h.1, ?_⟩
  rcases h.2 with ⟨e, _⟩ | ⟨g2, cap, cur, e, h1, h2, h3⟩
  · cases e
  · cases e
    exact .inr ⟨g, _, cur, rfl, h1, (heap_setCell_other w ⟨g', j, none⟩ g v hne).trans h2, h3⟩
theorem fill_set (n k : Nat) (h : k < n) : (List.replicate k (255 : UInt8) ++ List.replicate (n - k) 0).set k 255 = List.replicate (k + 1) 255 ++ List.replicate (n - (k + 1)) 0 := by
  rw [List.set_append_right _ _ (by simp), List.length_replicate, Nat.sub_self, show n - k = n - (k + 1) + 1 by omega, List.replicate_succ, List.set_cons_zero, List.replicate_succ', List.append_assoc]
  rfl

set_option maxHeartbeats 4000000 in
set_option maxRecDepth 100000 in
theorem sieveOrder_sv (a : Option Addr) (n c : Nat) (ks : List (List UInt8)) (s : List UInt8) (B : Int) (w : World) (hrd : RdTx w (.slice a n c) ks) (hB1 : B < 9223372036854775808) :
    Calls Try.prog 6 #[.slice a n c, .string (bs s), .int .i64 B] w fun e w' => e = .returned (.bool true) ∧ Below w.heap.size w w' := by
  have HN := hide hrd.len
  have HR := hide hrd
  have hsz := bs_size s
  obtain ⟨ls, hls⟩ : ∃ ls, ls = s.length := ⟨_, rfl⟩
  rw [← hls] at hsz
  clear hrd hls
  go_enter Try.func6, Try.ntmps6
  go_wp2_with fail
  refine (alive_sv w).mono ?_
  rintro e w1 ⟨rfl, b1⟩
  have HR1 := hide (HR.out.carry b1)
  have HB1 := hide b1
  clear b1
  go_wp2_with fail
  refine (heavy_sv a n c ks w1 HR1.out).mono ?_
  rintro e w2 ⟨z, rfl, hz, rfl⟩
  cases z with
  | true =>
    clear hz
    go_wp2
    go_ret
    exact ⟨rfl, HB1.out⟩
  | false =>
    have hn1 : n ≤ 1100 := by have := hz rfl; have := HN.out; omega
    clear hz
    by_cases hl1 : 10000 < ls
    · have hl1' : (10000 : Int) < ls := by omega
      go_wp2
      go_ret
      exact ⟨rfl, HB1.out⟩
    have hl1' : decide ((10000 : Int) < ls) = false := by simpa using (by omega : ¬ (10000 : Int) < ls)
    by_cases hn0 : n = 0
    · subst hn0
      go_wp2
      go_ret
      exact ⟨rfl, HB1.out⟩
    have hn0' : ((n : Int) == 0) = false := by simpa using hn0
    by_cases hB0 : B < 0
    · go_wp2
      go_ret
      exact ⟨rfl, HB1.out⟩
    obtain ⟨bn, rfl⟩ : ∃ bn : Nat, B = bn := ⟨B.toNat, by omega⟩
    have hB0' : decide ((bn : Int) < 0) = false := by simp only [decide_eq_false_iff_not]; omega
    have hnp : 0 < n := by omega
    obtain ⟨r, hr⟩ : ∃ r, r = bn % n := ⟨_, rfl⟩
    have HRR := hide hr
    clear hB0 hr
    go_wp2_with fail
    go_loopw [8, 9] (fun v i wr => ∃ (k : Nat) (av : Option Addr) (cv : Nat), k ≤ n ∧ i = .int .i64 k ∧ v = .slice av k cv ∧ Hid (OwTx wr w2.heap.size (.slice av k cv) ((rotK ks r).take k)) ∧ Hid (Below w2.heap.size w2 wr)) (fun _ i _ => n - (intOf i).toNat)
    case atStart => exact ⟨0, _, _, Nat.zero_le _, rfl, rfl, hide (OwTx.nil _ _), hide (Below.refl _ _)⟩
    case round =>
      obtain ⟨k, av, cv, hk, rfl, rfl, hO, hB⟩ := hrel
      by_cases hlt : k < n
      · have hlt' : (k : Int) < n := by omega
        obtain ⟨i, hi, hin, hrn, e1, e2⟩ := rot_num hnp hn1 hlt HRR.out
        have hkl : i < ks.length := by have := HN.out; omega
        obtain ⟨b, off, ha, q0⟩ := HR1.out.at hB.out i hkl
        subst ha
        have HT := hide (rotK_take ks HN.out hrn hlt hi hkl)
        have HL := hide (show ((rotK ks r).take k).length = k by rw [List.length_take, rotK_len ks (by have := HN.out; omega)]; have := HN.out; omega)
        obtain ⟨g, cg, w4, hrun, ho4, hb4⟩ := app_tx hO.out hB.out.size (by rw [HL.out]; omega) ks[i]
        rw [← HT.out, HL.out] at ho4
        rw [HL.out] at hrun
        have HO4 := hide ho4
        have HB4 := hide (show Below w2.heap.size w2 w4 from hB.out.trans hb4)
        generalize ks[i] = x at *
        have hin' : (i : Int) < n := by omega
        clear ho4 hb4 hi HT HL hkl
        go_wp2_with (at_builtin; refine wpList_runappY rfl (.tmp 49) (.tmp 62) 28 rfl rfl rfl rfl hrun ?_)
        exact ⟨⟨k + 1, _, _, by omega, by go_num, rfl, HO4, HB4⟩, by simp only [intOf]; omega⟩
      · have hd : decide ((k : Int) < n) = false := by simpa using (by omega : ¬ (k : Int) < n)
        obtain rfl : k = n := by omega
        have HRN := hide (show r < k by rw [HRR.out]; exact Nat.mod_lt _ hnp)
        have HPM := hide (mk_perm (turn_perm ks r))
        have HO := hide (show OwTx wr w2.heap.size (.slice av k cv) (rotK ks r) by
          have := hO.out
          rwa [List.take_of_length_le (by rw [rotK_len ks (by have := HRN.out; have := HN.out; omega)]; have := HN.out; omega)] at this)
        have HR3 := hide (HR1.out.carry hB.out)
        have HB3 := hide (show Below w.heap.size w wr from HB1.out.trans (hB.out.mono HB1.out.size))
        clear hO hB
        go_wp2_with fail
        refine (make_sv a k c ks wr HR3.out).mono ?_
        rintro e w5 ⟨a5, n5, c5, rfl, o5, b5⟩
        have HRD := hide o5.rd
        have HNL := hide (show n5 = (mkVL ks).length by obtain ⟨_, _, e⟩ := o5.form; cases e; rfl)
        have HO5 := hide (HO.out.carry b5)
        have HB5 := hide (show Below w.heap.size w w5 from HB3.out.trans (b5.mono HB3.out.size))
        have m1 := make_sv av k cv (rotK ks r) w5 HO5.out.rd
        rw [show mkVE (rotK ks r) = mkVE ks from HPM.out.1, show mkVL (rotK ks r) = mkVL ks from HPM.out.2] at m1
        clear o5 b5 HO HO5 HB3 HR3 HPM
        go_wp2_with fail
        refine Calls.mono m1 ?_
        rintro e w6 ⟨a6, n6, c6, rfl, o6, b6⟩
        have HR6 := hide (HRD.out.carry b6)
        have HB6 := hide (show Below w.heap.size w w6 from HB5.out.trans (b6.mono HB5.out.size))
        have c1 := conv_y HR6.out
        have c2 := conv_y o6.rd
        clear o6 b6 m1 HRD HB5
        by_cases he : mkVE ks = 0
        · have HSZ := hide (sv_range he)
          have HL5 := hide (show n5 = szV ks by
            rw [HNL.out]
            unfold mkVL
            rw [if_pos he, sieveL_len])
          have hn8 : n5 ≤ 1024 := by have := HSZ.out; have := HL5.out; omega
          rw [he]
          generalize mkVL ks = A at *
          go_wp2_with fail
          refine (may_sv a5 n5 c5 A s w6 HR6.out HNL.out).mono ?_
          rintro e w7 ⟨rfl, b7⟩
          have HB7 := hide (show Below w.heap.size w w7 from HB6.out.trans (b7.mono HB6.out.size))
          have HG := hide (show mayE A s = mayE (List.replicate n5 255) s from mayE_len (by rw [List.length_replicate]; exact HNL.out.symm) s)
          have HG2 := hide (show mayE (List.replicate n5 0) s = mayE (List.replicate n5 255) s from mayE_len (by rw [List.length_replicate, List.length_replicate]) s)
          have HMB := hide (show mayE A s ≠ 0 → mayR A s = false from may_bad)
          rw [HG.out] at HMB ⊢
          generalize mayR A s = may at *
          clear b7 c1 c2 HB6 HR6 HNL HG
          obtain ⟨w8, hmk8, o8, b8⟩ := make_sv0 w7 n5 (by omega)
          have HB8 := hide (show Below w.heap.size w w8 from HB7.out.trans (b8.mono HB7.out.size))
          have HO8 := hide o8
          obtain ⟨g8, hg8⟩ : ∃ g8, g8 = w7.heap.size := ⟨_, rfl⟩
          rw [← hg8] at hmk8 HO8
          have HG8 := hide (show w.heap.size ≤ g8 by rw [hg8]; exact HB7.out.size)
          obtain ⟨w9, hmk9, o9, b9⟩ := make_sv0 w8 n5 (by omega)
          have HB9 := hide (show Below w.heap.size w w9 from HB8.out.trans (b9.mono HB8.out.size))
          obtain ⟨g9, hg9⟩ : ∃ g9, g9 = w8.heap.size := ⟨_, rfl⟩
          rw [← hg9] at hmk9 o9
          have HO9 := hide o9
          have HF9 := hide (HO8.out.carry b9)
          have HNE := hide (show g9 ≠ g8 by
            have := (World.ownsRow.lt HO8.out g8 rfl).2
            omega)
          clear o8 b8 o9 b9 HB7 HB8 HO8 hg8 hg9
          go_wp2_with (first | (refine wpList_mkY rfl (.tmp 108) (.tmp 108) 22 rfl rfl rfl hmk8 ?_) | (refine wpList_mkY rfl (.tmp 111) (.tmp 111) 22 rfl rfl rfl hmk9 ?_) | fail)
          clear hmk8 hmk9
          go_loopw [18] (fun i wx => ∃ k : Nat, k ≤ n5 ∧ i = .int .i64 k ∧ Hid (OwY wx g8 (.slice (some ⟨g8, 0, none⟩) n5 n5) (List.replicate k 255 ++ List.replicate (n5 - k) 0)) ∧ Hid (OwY wx g9 (.slice (some ⟨g9, 0, none⟩) n5 n5) (List.replicate n5 0)) ∧ Hid (Below w.heap.size w wx)) (fun i _ => n5 - (intOf i).toNat)
          case atStart => exact ⟨0, Nat.zero_le _, rfl, HF9, HO9, HB9⟩
          case round =>
            clear HF9 HO9 HB9
            obtain ⟨j, hj, rfl, hF, hO, hB⟩ := hrel
            by_cases hjt : j < n5
            · have hjt' : (j : Int) < n5 := by omega
              have HSS := hide (fill_set n5 j hjt)
              have HLL := hide (show (List.replicate j (255 : UInt8) ++ List.replicate (n5 - j) 0).length = n5 by simp; omega)
              generalize List.replicate j (255 : UInt8) ++ List.replicate (n5 - j) 0 = D at *
              obtain ⟨g', off', ha, qb⟩ := rd_cellX hF.out.rd j (by rw [HLL.out]; exact hjt)
              cases ha
              rw [Nat.zero_add] at qb
              have hfz : wr.frozen? ⟨g8, j, none⟩ = false := World.ownsRow.frozenAt (show wr.ownsRow _ _ _ _ _ _ by have := hF.out; unfold OwY at this; rw [HLL.out] at this; exact this) _
              obtain ⟨s1, s2, s3⟩ := hF.out.setY j 255 (by have := (World.ownsRow.lt hF.out g8 rfl).2; omega)
              rw [HSS.out] at s1
              have HF6 := hide s1
              have HO6 := hide (hO.out.apart HNE.out j (.int .u8 (255 : UInt8).toNat))
              have HB6 := hide (hB.out.trans (s2.mono HG8.out))
              generalize (D[j]'(by rw [HLL.out]; exact hjt)) = y at *
              clear s1 s2 s3
              go_wp2
              exact ⟨⟨j + 1, by omega, by go_num, HF6, HO6, HB6⟩, by simp only [intOf]; omega⟩
            · have hdj : decide ((j : Int) < n5) = false := by simpa using (by omega : ¬ (j : Int) < n5)
              have HFR := hide (show Rd wr (.slice (some ⟨g8, 0, none⟩) n5 n5) (List.replicate n5 255) by
                have := hF.out.rd
                rwa [show j = n5 by omega, Nat.sub_self, List.replicate_zero, List.append_nil] at this)
              have HOR := hide hO.out.rd
              clear hF hO
              go_wp2_with fail
              refine (may_sv (some ⟨g8, 0, none⟩) n5 n5 (List.replicate n5 255) s wr HFR.out (by rw [List.length_replicate])).mono ?_
              rintro e w10 ⟨rfl, b10⟩
              have HOR10 := hide (HOR.out.carry b10)
              have HB10 := hide (show Below w.heap.size w w10 from hB.out.trans (b10.mono hB.out.size))
              have HFU := hide (show mayE (List.replicate n5 255) s = 0 → mayR (List.replicate n5 255) s = true from may_full n5 s)
              generalize mayR (List.replicate n5 255) s = full at *
              clear b10 hB HFR HOR
              go_wp2_with fail
              have m1 := may_sv (some ⟨g9, 0, none⟩) n5 n5 (List.replicate n5 0) s w10 HOR10.out (by rw [List.length_replicate])
              rw [may_none, HG2.out] at m1
              refine Calls.mono m1 ?_
              rintro e w11 ⟨rfl, b11⟩
              have HB11 := hide (show Below w.heap.size w w11 from HB10.out.trans (b11.mono HB10.out.size))
              clear m1 b11 HB10 HOR10 HG2
              generalize mayE (List.replicate n5 255) s = y at *
              by_cases hy : y = 0
              · subst hy
                obtain rfl : full = true := HFU.out rfl
                clear HFU HMB
                cases may with
                | true =>
                  go_wp2
                  go_ret
                  exact ⟨rfl, HB11.out⟩
                | false =>
                  go_wp2
                  go_ret
                  exact ⟨rfl, HB11.out⟩
              · obtain rfl : may = false := HMB.out hy
                have hy1 : ¬ ((y : Int) = 0) := by omega
                have hy2 : (((y : Nat) : Int) == 0) = false := by simpa using hy1
                clear HFU HMB
                go_wp2
                go_ret
                exact ⟨rfl, HB11.out⟩
        · have hy : ¬ ((mkVE ks : Int) = 0) := by omega
          generalize mkVE ks = y at *
          generalize mkVL ks = A at *
          have hy2 : (((y : Nat) : Int) != 0) = true := by simpa using hy
          clear hy hd hk hlt hn0 hnp HRN HRR HN HR HR1 HB1 HNL HR6
          generalize bs A = S at *
          go_wp2_with fail
          go_ret
          exact ⟨rfl, HB6.out⟩
end Go.Proofs.Ytmihgljhahkhcaa
