/-
  What the document's Read of layer 10 does; what the statement BatchReads answers.
-/
import Derived.Test.YtihbidkonoikkaaBt8
namespace Go.Proofs.Ytihbidkonoikkaa
open Go.RowKit
set_option linter.unusedVariables false
set_option linter.unusedSimpArgs false


set_option maxHeartbeats 4000000 in
set_option maxRecDepth 100000 in
theorem rread_bt (a : Option Addr) (n c : Nat) (l : List UInt8) (w : World) (hrd : Rd w (.slice a n c) l) :
    Calls Try.prog 20 #[.slice a n c] w fun e w' => ∃ av nv cv, e = .returned (.tuple #[.int .i64 (rdBS l), .slice av nv cv, .int .i64 (rdBE l)]) ∧ OwO w' w.heap.size (.slice av nv cv) (rdBL l) ∧ Below w.heap.size w w' := by
  have HN := hide (show n = l.length by obtain ⟨_, _, e⟩ := rd_formX hrd; cases e; rfl)
  have HR := hide hrd
  by_cases hg : 16384 < n
  · have hg' : (16384 : Int) < n := by omega
    obtain ⟨e1, e2, e3⟩ := rdB_long (l := l) (by have := HN.out; omega)
    rw [e1, e2, e3]
    clear e1 e2 e3 hrd
    go_enter Try.func20, Try.ntmps20
    go_wp2
    go_ret3
    exact ⟨_, _, _, rfl, OwG.nil _ _, Below.refl _ _⟩
  have hg' : decide ((16384 : Int) < n) = false := by simpa using (by omega : ¬ (16384 : Int) < n)
  have HG := hide (show ¬ 16384 < l.length by have := HN.out; omega)
  have HBad := hide (show readO l = none → rdBE l = 8 ∧ rdBS l = 0 ∧ rdBL l = [] from rdB_none HG.out)
  have hread := rread1_any w (by have := HG.out; omega) hrd
  clear hrd
  cases hr1 : rd l with
  | none =>
    rw [hr1] at hread
    unfold rdV at hread
    have HE := hide (HBad.out (rr_n1 hr1))
    clear hr1
    go_enter Try.func20, Try.ntmps20
    go_wp2_with fail
    refine hread.mono ?_
    rintro e w1 ⟨rfl, rfl⟩
    clear hread
    go_wp2
    go_ret3
    exact ⟨none, 0, 0, by rw [HE.out.1, HE.out.2.1]; rfl, by rw [HE.out.2.2]; exact OwG.nil _ _, Below.refl _ _⟩
  | some p =>
  obtain ⟨s, k1⟩ := p
  rw [hr1] at hread
  unfold rdV at hread
  obtain ⟨hk0, hkl, hk10, hs64⟩ := rd_fits hr1
  have HR1 := hide hr1
  clear hr1
  go_enter Try.func20, Try.ntmps20
  go_wp2_with fail
  refine hread.mono ?_
  rintro e w1 ⟨rfl, rfl⟩
  clear hread
  by_cases hs : 1099511627776 < s
  · have hs' : (1099511627776 : Int) < s := by omega
    have HE := hide (HBad.out (rr_n2 HR1.out hs))
    go_wp2
    go_ret3
    exact ⟨none, 0, 0, by rw [HE.out.1, HE.out.2.1]; rfl, by rw [HE.out.2.2]; exact OwG.nil _ _, Below.refl _ _⟩
  have hs' : decide ((1099511627776 : Int) < s) = false := by simpa using (by omega : ¬ (1099511627776 : Int) < s)
  obtain ⟨a2, c2, hsl, hsr⟩ := sliceY HR.out k1 hkl
  have HR2 := hide (hsr w1 HR.out)
  clear hsr
  have hread := rread1_any w1 (by have := HG.out; rw [List.length_drop]; omega) HR2.out
  cases hr2 : rd (l.drop k1) with
  | none =>
    rw [hr2] at hread
    unfold rdV at hread
    have HE := hide (HBad.out (rr_n3 HR1.out hr2))
    clear hr2
    go_wp2_with (first | (refine wpList_slY rfl (.tmp 33) (.tmp 34) 28 (by kernel_rfl) rfl rfl rfl hsl ?_) | fail)
    refine hread.mono ?_
    rintro e w2 ⟨rfl, rfl⟩
    clear hread
    go_wp2
    go_ret3
    exact ⟨none, 0, 0, by rw [HE.out.1, HE.out.2.1]; rfl, by rw [HE.out.2.2]; exact OwG.nil _ _, Below.refl _ _⟩
  | some p =>
  obtain ⟨m, k2⟩ := p
  rw [hr2] at hread
  unfold rdV at hread
  obtain ⟨hj0, hjl, hj10, hm64⟩ := rd_fits hr2
  have HR22 := hide hr2
  clear hr2
  go_wp2_with (first | (refine wpList_slY rfl (.tmp 33) (.tmp 34) 28 (by kernel_rfl) rfl rfl rfl hsl ?_) | fail)
  refine hread.mono ?_
  rintro e w2 ⟨rfl, rfl⟩
  clear hread hsl
  by_cases hm : 64 < m
  · have hm' : (64 : Int) < m := by omega
    have HE := hide (HBad.out (rr_n4 HR1.out HR22.out hm))
    go_wp2
    go_ret3
    exact ⟨none, 0, 0, by rw [HE.out.1, HE.out.2.1]; rfl, by rw [HE.out.2.2]; exact OwG.nil _ _, Below.refl _ _⟩
  have hm' : decide ((64 : Int) < m) = false := by simpa using (by omega : ¬ (64 : Int) < m)
  have hm2 : m ≤ 64 := by omega
  have HKK := hide (show k1 + k2 ≤ l.length by rw [List.length_drop] at hjl; omega)
  obtain ⟨a3, c3, hsl, hsr⟩ := sliceY HR.out (k1 + k2) HKK.out
  have HR3 := hide (hsr w2 HR.out)
  obtain ⟨z, hz⟩ : ∃ z, z = l.drop (k1 + k2) := ⟨_, rfl⟩
  rw [← hz] at HR3
  have HZ := hide hz
  have HZL := hide (show z.length ≤ 1000000 by rw [hz, List.length_drop]; have := HG.out; omega)
  obtain ⟨n3, hn3⟩ : ∃ n3, n3 = n - (k1 + k2) := ⟨_, rfl⟩
  rw [← hn3] at hsl HR3
  have HN3 := hide (show n3 = z.length by rw [hn3, hz, List.length_drop, HN.out])
  obtain ⟨kk, hkk⟩ : ∃ kk, kk = k1 + k2 := ⟨_, rfl⟩
  have hsum : ((k1 : Int) + k2) = kk := by omega
  rw [← hkk] at hsl
  clear hsr hz hn3 hkk hg hm hjl
  go_wp2_with (refine wpList_slY rfl (.tmp 46) (.tmp 49) 28 (by kernel_rfl) rfl rfl rfl hsl ?_)
  clear hsl hsum
  go_loopw [13, 12, 11] (fun i v b wr => ∃ k : Nat, k ≤ m ∧ i = .int .i64 k ∧ ∃ av nv cv, v = .slice av nv cv ∧ ∃ ab nb cb, b = .slice ab nb cb ∧ ∃ es r, Hid (itO cutO k z = some (es, r)) ∧ Hid (nv = es.length) ∧ Hid (OwO wr w2.heap.size (.slice av nv cv) es) ∧ Hid (nb = r.length) ∧ Hid (RdY w2 wr (.slice ab nb cb) r) ∧ Hid (r.length ≤ 1000000) ∧ Hid (Below w2.heap.size w2 wr)) (fun i _ _ _ => m - (intOf i).toNat)
  case atStart => exact ⟨0, Nat.zero_le _, rfl, none, 0, 0, rfl, _, _, _, rfl, [], z, hide rfl, hide rfl, hide (OwG.nil _ _), HN3, hide (.inl HR3.out), HZL, hide (Below.refl _ _)⟩
  case round =>
    obtain ⟨k, hk, rfl, av, nv, cv, rfl, ab, nb, cb, rfl, es, r, hit, hnv, hown, hnb, hy, hrl, hbel⟩ := hrel
    by_cases hlt : k < m
    · have hlt' : (k : Int) < m := by omega
      go_wp2_with fail
      refine (rcut_bt ab nb cb r wr (hy.out.rd hbel.out) hrl.out).mono ?_
      rintro e w3 ⟨hP, b3⟩
      have HB3 := hide (show Below w2.heap.size w2 w3 from hbel.out.trans (b3.mono hbel.out.size))
      have HO3 := hide (hown.out.carry b3)
      rcases hP with ⟨o, r2, a4, n4, c4, hc4, rfl, hn4, ho4⟩ | ⟨hc4, o, a4, n4, c4, rfl⟩
      · have HNx := hide (itO_next hit.out hc4)
        have HN4 := hide hn4
        have HY3 := hide (show RdY w2 w3 (.slice a4 n4 c4) r2 from .inr (ho4.mono hbel.out.size))
        have HRL := hide (show r2.length ≤ 1000000 from Nat.le_trans (cutO_len hc4) hrl.out)
        have HEL := hide (show es.length ≤ 1000000 by have := itO_len hit.out; omega)
        clear hc4 hn4 ho4 b3 hown hbel hy hnb
        obtain ⟨w4, hw4⟩ : ∃ w4, w4 = w3.alloc (.cells #[.string (bs o.1), .bool o.2.1, .string (bs o.2.2)] 34) := ⟨_, rfl⟩
        have hb4 : Below w3.heap.size w3 w4 := by rw [hw4]; exact (Below.refl _ _).alloc (Nat.le_refl _) _
        obtain ⟨k0, k1', k2'⟩ := OpAt.cells (show OpAt w4 w3.heap.size o by rw [hw4]; exact OpAt.new w3 o)
        have HB4 := hide (show Below w2.heap.size w2 w4 from HB3.out.trans (hb4.mono HB3.out.size))
        obtain ⟨g9, c9, w9, hrun, ho9, hb9, hk9⟩ := app_op (HO3.out.carry hb4) HB4.out.size HEL.out o
        have HB9 := hide (show Below w2.heap.size w2 w9 from HB4.out.trans hb9)
        have HY9 := hide ((HY3.out.carry hb4).keep hk9 (by decide))
        obtain ⟨n9, hn9⟩ : ∃ n9, n9 = es.length + 1 := ⟨_, rfl⟩
        rw [← hn9] at hrun ho9
        have HO9 := hide ho9
        have HN9 := hide (show n9 = (es ++ [o]).length by rw [hn9]; simp)
        clear ho9 hb9 hk9 hn9 hb4 HB3 HO3 HY3
        rw [hw4] at hrun k0 k1' k2'
        rw [show (w3.alloc (.cells #[.string (bs o.1), .bool o.2.1, .string (bs o.2.2)] 34)).heap.size = w3.heap.size + 1 by simp] at hrun
        go_wp2_with (at_builtin; refine wpList_runappY rfl (.tmp 65) (.tmp 67) 26 rfl rfl rfl rfl hrun ?_)
        clear hrun k0 k1' k2' hw4
        go_roundw
        case rel => exact ⟨k + 1, by omega, by go_num, _, _, _, rfl, _, _, _, rfl, es ++ [o], r2, HNx, HN9, HO9, HN4, HY9, HRL, HB9⟩
        case measure => simp only [intOf]; omega
      · have HE := hide (HBad.out (rr_n5 HR1.out HR22.out (by rw [← HZ.out]; exact itO_bad hit.out hc4 hlt)))
        clear hc4 b3
        obtain ⟨w4, hw4⟩ : ∃ w4, w4 = w3.alloc (.cells #[.string (bs o.1), .bool o.2.1, .string (bs o.2.2)] 34) := ⟨_, rfl⟩
        have hb4 : Below w3.heap.size w3 w4 := by rw [hw4]; exact (Below.refl _ _).alloc (Nat.le_refl _) _
        have HB4 := hide (show Below w2.heap.size w2 w4 from HB3.out.trans (hb4.mono HB3.out.size))
        clear hb4
        go_wp2
        rw [← hw4]
        go_ret3
        exact ⟨none, 0, 0, by rw [HE.out.1, HE.out.2.1]; rfl, by rw [HE.out.2.2]; exact OwG.nil _ _, HB4.out⟩
    · have hd : decide ((k : Int) < m) = false := by simpa using (by omega : ¬ (k : Int) < m)
      have HIT := hide (show itO cutO m (l.drop (k1 + k2)) = some (es, r) by have := hit.out; rwa [show k = m by omega, HZ.out] at this)
      by_cases hr0 : r = []
      · have hnb0 : nb = 0 := by rw [hnb.out, hr0]; rfl
        subst hnb0
        have hc := rask_bt s av nv cv es wr (OwG.rd ecO_len hown.out)
        by_cases ha : askO s es = 0
        · rw [ha] at hc
          have HS := hide (rr_s HR1.out HR22.out (by rw [← hr0]; exact HIT.out) ha)
          obtain ⟨e1, e2, e3⟩ := rdB_some HG.out HS.out
          have HE := hide (And.intro e1 (And.intro e2 e3))
          clear e1 e2 e3
          go_wp2_with fail
          refine hc.mono ?_
          rintro e w5 ⟨rfl, b5⟩
          have HB5 := hide (show Below w2.heap.size w2 w5 from hbel.out.trans (b5.mono hbel.out.size))
          have HO5 := hide (hown.out.carry b5)
          clear hc b5 ha
          go_wp2
          go_ret3
          exact ⟨av, nv, cv, by rw [HE.out.1, HE.out.2.1]; rfl, by rw [HE.out.2.2]; exact HO5.out, HB5.out⟩
        · have HE := hide (HBad.out (rr_n6 HR1.out HR22.out HIT.out (.inr ha)))
          have ha' : (askO s es == 0) = false := by simpa using ha
          generalize askO s es = y at *
          go_wp2_with fail
          refine hc.mono ?_
          rintro e w5 ⟨rfl, b5⟩
          have HB5 := hide (show Below w2.heap.size w2 w5 from hbel.out.trans (b5.mono hbel.out.size))
          clear hc b5 ha
          go_wp2
          go_ret3
          exact ⟨none, 0, 0, by rw [HE.out.1, HE.out.2.1]; rfl, by rw [HE.out.2.2]; exact OwG.nil _ _, HB5.out⟩
      · have HE := hide (HBad.out (rr_n6 HR1.out HR22.out HIT.out (.inl hr0)))
        have hnb1 : (0 : Int) < nb := by
          have := hnb.out
          have : 0 < r.length := List.length_pos_iff.2 hr0
          omega
        clear hr0
        go_wp2
        go_ret3
        exact ⟨none, 0, 0, by rw [HE.out.1, HE.out.2.1]; rfl, by rw [HE.out.2.2]; exact OwG.nil _ _, hbel.out⟩

end Go.Proofs.Ytihbidkonoikkaa
