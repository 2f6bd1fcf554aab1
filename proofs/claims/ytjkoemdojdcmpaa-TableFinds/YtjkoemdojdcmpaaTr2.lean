/-
  What the document's Read of layer 14 does.
-/
import Derived.Test.YtjkoemdojdcmpaaTr1
import Derived.Test.YtjkoemdojdcmpaaTb11
import Derived.Test.YtjkoemdojdcmpaaBr4
namespace Go.Proofs.Ytjkoemdojdcmpaa
open Go.RowKit
set_option linter.unusedVariables false
set_option linter.unusedSimpArgs false

theorem IsT.bod {b : List UInt8} {l : List Ent} (h : IsT b l) : ∃ z, b = bodT (pcsT l) ++ z := ⟨_, h.2.symm⟩
def RiI (b : List UInt8) (i : Nat) (es : List Ent) (A : Nat) (r : List UInt8) (bad : Bool) : Prop :=
  ∀ L, IsT b L → bad = false ∧ es = ((pcsT L).take i).flatten ∧ A = (bodT ((pcsT L).take i)).length ∧ r = ixT ((pcsT L).drop i)
theorem bod_append (ps qs : List (List Ent)) : bodT (ps ++ qs) = bodT ps ++ bodT qs := by simp [bodT]
theorem RiI.next {b : List UInt8} {i : Nat} {es : List Ent} {A m X : Nat} {r r1 r2 s : List UInt8} {b1 b2 : Bool} {m2 : Nat} (h : RiI b i es A r false) (hm : ∀ L, IsT b L → m = (pcsT L).length ∧ X = (bodT (pcsT L)).length) (hi : i < m) (h1 : TxtR r false s r1 b1) (h2 : NumR (X - A) r1 b1 m2 r2 b2) :
    ∀ L, IsT b L → rdKE ((b.take (A + m2)).drop A) = 0 ∧ b2 = false ∧ es ++ rdKL ((b.take (A + m2)).drop A) = ((pcsT L).take (i + 1)).flatten ∧ A + m2 = (bodT ((pcsT L).take (i + 1))).length ∧ r2 = ixT ((pcsT L).drop (i + 1)) := by
  intro L hL
  obtain ⟨_, e1, e2, e3⟩ := h L hL
  obtain ⟨e4, e5⟩ := hm L hL
  obtain ⟨g1, g2, g3, _⟩ := hL.ok
  obtain ⟨c1, c2, c3, _⟩ := cut_facts g2 g3
  obtain ⟨z, hz⟩ := hL.bod
  generalize pcsT L = ps at *
  have hil : i < ps.length := by omega
  have hd : ps.drop i = ps[i] :: ps.drop (i + 1) := List.drop_eq_getElem_cons hil
  have hp := c1 _ (List.getElem_mem hil)
  have hps : ps = ps.take i ++ (ps[i] :: ps.drop (i + 1)) := by rw [← hd, List.take_append_drop]
  have ht : ps.take (i + 1) = ps.take i ++ [ps[i]] := List.take_succ_eq_append_getElem hil
  rw [hd, ix_cons] at e3
  have hlast := hp.last
  rw [e3] at h1
  obtain ⟨-, q2, q3⟩ := h1.exact (by omega)
  have hX : X = A + ((blkK ps[i]).length + (bodT (ps.drop (i + 1))).length) := by
    rw [e5, e2]
    conv => lhs; rw [hps]
    rw [bod_append, bod_cons, List.length_append, List.length_append]
  rw [q2, q3] at h2
  have hb := hp.2
  obtain ⟨q4, q5, q6⟩ := h2.exact (by omega) (by omega)
  have hseg : (b.take (A + m2)).drop A = blkK ps[i] := by
    have hb2 : b = bodT (ps.take i) ++ (blkK ps[i] ++ (bodT (ps.drop (i + 1)) ++ z)) := by
      rw [hz]
      conv => lhs; rw [hps]
      rw [bod_append, bod_cons]; simp
    have key : ∀ u v t : List UInt8, ((u ++ (v ++ t)).take (u.length + v.length)).drop u.length = v := by
      intro u v t
      rw [← List.append_assoc, ← List.length_append, List.take_left, List.drop_left]
    rw [hb2, e2, q4]
    exact key _ _ _
  rw [hseg, (rdK_pt hp).1, (rdK_pt hp).2, ht, bod_append, List.flatten_append]
  refine ⟨rfl, q6, by rw [e1]; simp, ?_, q5⟩
  rw [List.length_append, e2, q4]; simp [bodT]

theorem seg_len (b : List UInt8) (A m : Nat) : ((b.take (A + m)).drop A).length ≤ m := by
  rw [List.length_drop, List.length_take]; omega

set_option maxHeartbeats 8000000 in
set_option maxRecDepth 100000 in
theorem rread_tb (a : Option Addr) (n c : Nat) (b : List UInt8) (w : World) (hrd : Rd w (.slice a n c) b) :
    Calls Try.prog 17 #[.slice a n c] w fun e w' => ∃ av nv cv, e = .returned (.tuple #[.slice av nv cv, .int .i64 (rdTE b)]) ∧ OwN w' w.heap.size (.slice av nv cv) (rdTL b) ∧ Below w.heap.size w w' := by
  have HN := hide hrd.cap.1
  have HR := hide hrd
  by_cases hbig : 16384 < n
  · have hbig' : (16384 : Int) < n := by omega
    have HE := hide (rdT_long (b := b) (by have := HN.out; omega))
    go_enter Try.func17, Try.ntmps17
    go_wp2
    go_ret2
    rw [HE.out.1, HE.out.2]
    exact ⟨_, _, _, rfl, OwG.nil _ _, Below.refl _ _⟩
  have hbig' : decide ((16384 : Int) < n) = false := by simpa using (by omega : ¬ (16384 : Int) < n)
  have HLB := hide (show ¬ 16384 < b.length by have := HN.out; omega)
  by_cases h12 : n < 12
  · have h12' : (n : Int) < 12 := by omega
    go_enter Try.func17, Try.ntmps17
    have HE := hide (rdT_none HLB.out (fun l hl => by obtain ⟨x, h1, _⟩ := hl.parts; have := HN.out; omega))
    go_wp2
    go_ret2
    rw [HE.out.1, HE.out.2]
    exact ⟨_, _, _, rfl, OwG.nil _ _, Below.refl _ _⟩
  have h12' : decide ((n : Int) < 12) = false := by simpa using (by omega : ¬ (n : Int) < 12)
  obtain ⟨k, hk⟩ : ∃ k, k + 12 = n := ⟨n - 12, by omega⟩
  have HKN := hide (show k + 12 = b.length by rw [hk]; exact HN.out)
  obtain ⟨aE, cE, hslE, hrE⟩ := slYl hrd .i64 k (by have := HKN.out; omega)
  have enk : n - k = 12 := by omega
  rw [enk] at hslE hrE
  have hRE := hrE w hrd
  have HLE := hide (show (b.drop k).length = 12 by rw [List.length_drop]; have := HKN.out; omega)
  have HLA := hide (show (b.take k).length = k by rw [List.length_take]; have := HKN.out; omega)
  obtain ⟨E, hEE⟩ : ∃ E, E = b.drop k := ⟨_, rfl⟩
  rw [← hEE] at hRE HLE
  obtain ⟨gE, oE, haE, -⟩ := rd_cellX hRE 0 (by rw [HLE.out]; omega)
  subst haE
  have hcE : 12 ≤ cE := hRE.cap.2
  have hc4 : (4 : Int) ≤ cE := by omega
  have hc5 : ¬ cE = 4 := by omega
  have hc8 : (8 : Int) ≤ cE := by omega
  have hr4 := fun wx (hx : Rd wx (.slice (some ⟨gE, oE, none⟩) 12 cE) E) => (rd_takeX hx 4 (by rw [HLE.out]; omega)).2
  have hr5 := fun wx (hx : Rd wx (.slice (some ⟨gE, oE, none⟩) 12 cE) E) => (rd_takeX (slY_some hx 4 (by omega)) 4 (by rw [List.length_drop, HLE.out]; omega)).2
  obtain ⟨X, hX⟩ : ∃ X, X = un4 (E.take 4) := ⟨_, rfl⟩
  obtain ⟨Y, hY⟩ : ∃ Y, Y = un4 ((E.drop 4).take 4) := ⟨_, rfl⟩
  have HXB := hide (show X < 4294967296 by rw [hX]; have := un4_lt (E.take 4); rw [List.length_take, HLE.out] at this; exact this)
  have HYB := hide (show Y < 4294967296 by rw [hY]; have := un4_lt ((E.drop 4).take 4); rw [List.length_take, List.length_drop, HLE.out] at this; exact this)
  have HX := hide (fun wx (hx : Rd wx (.slice (some ⟨gE, oE, none⟩) 12 cE) E) => by
    have h := rnum_tb (some ⟨gE, oE, none⟩) cE (E.take 4) wx (by rw [List.length_take, HLE.out]; omega) (hr4 wx hx)
    rwa [← hX] at h)
  have HY := hide (fun wx (hx : Rd wx (.slice (some ⟨gE, oE, none⟩) 12 cE) E) => by
    have h := rnum_tb (some ⟨gE, oE + 4, none⟩) (cE - 4) ((E.drop 4).take 4) wx (by rw [List.length_take, List.length_drop, HLE.out]; omega) (hr5 wx hx)
    rwa [← hY] at h)
  have HXE := hide (show X = un4 ((b.drop k).take 4) by rw [hX, hEE])
  have HYE := hide (show Y = un4 (((b.drop k).drop 4).take 4) by rw [hY, hEE])
  have HRE := hide hRE
  have e12 : (n : Int) - 12 = (k : Int) := by omega
  have wk2 : wrap64 ((n : Int) - 12) = (k : Int) := by unfold wrap64; omega
  clear hrE enk hr4 hr5 hX hY hEE hRE hrd
  go_enter Try.func17, Try.ntmps17
  go_wp2_with (first | (refine wpList_slY rfl (.tmp 24) (.tmp 27) 22 (by kernel_rfl) rfl rfl rfl hslE ?_) | fail)
  clear hslE h12'
  have hK : Keeps (fun wx => Rd wx (.slice (some ⟨gE, oE, none⟩) 12 cE) E ∧ Below w.heap.size w wx) := fun w1 w2 h hb => ⟨h.1.carry hb, h.2.trans (hb.mono h.2.size)⟩
  refine reg_begin hK (by kernel_rfl) ⟨HRE.out, Below.refl _ _⟩ ?_
  intro hS
  generalize w.drew = wd at *
  refine reg_plan [0, 1, 3, 4] (fuel := 4) (a' := ?qaa1) (by kernel_rfl) (by kernel_rfl) (by kernel_rfl) ?qap1 hS ?qan1
  case qap1 =>
    iterate 4 (apply Yl.cons rfl (by kernel_rfl); focus (rintro wx ⟨x1, x2⟩; clear x1 x2; go_simp; all_goals (with_reducible rfl)); try simp only [Act.put, List.setIfInBounds_toArray, List.set_cons_zero, List.set_cons_succ])
    exact Yl.nil
  refine reg_callv hK (i := 2) (v := .int .i64 X) rfl (by kernel_rfl) (by kernel_rfl) (by go_simp) hS (HX.out _ hS.1) ?_
  clear hS
  intro w31 hS
  try simp only [Act.put, List.setIfInBounds_toArray, List.set_cons_zero, List.set_cons_succ]
  refine reg_callv hK (i := 5) (v := .int .i64 Y) rfl (by kernel_rfl) (by kernel_rfl) (by go_simp) hS (HY.out _ hS.1) ?_
  clear hS
  intro w34 hS
  try simp only [Act.put, List.setIfInBounds_toArray, List.set_cons_zero, List.set_cons_succ]
  refine reg_plan [6, 7] (fuel := 0) (a' := ?qaa2) (by kernel_rfl) (by kernel_rfl) (by kernel_rfl) ?qap2 hS ?qan2
  case qap2 =>
    iterate 2 (apply Yl.cons rfl (by kernel_rfl); focus (rintro wx ⟨x1, x2⟩; clear x1 x2; go_simp; all_goals (with_reducible rfl)); try simp only [Act.put, List.setIfInBounds_toArray, List.set_cons_zero, List.set_cons_succ])
    exact Yl.nil
  refine wpAnyH_done (by kernel_rfl) ?_ _
  refine NoPanic.normal ?_
  try simp only [Act.put, List.setIfInBounds_toArray, List.set_cons_zero, List.set_cons_succ]
  obtain ⟨wb, hwb⟩ : ∃ wb, wb = w34 := ⟨_, rfl⟩
  subst hwb
  have HBw := hide hS.2
  clear hS hK hc4 hc5 hc8 hcE
  have hXb : X < 4294967296 := HXB.out
  have hYb : Y < 4294967296 := HYB.out
  by_cases g1 : k < X
  · have g1' : (k : Int) < X := by omega
    have HE := hide (rdT_none HLB.out (fun l hl => by have := (hl.open HKN.out HXE.out HYE.out).1; have := HLA.out; omega))
    go_wp2
    go_ret2
    rw [HE.out.1, HE.out.2]
    exact ⟨_, _, _, rfl, OwG.nil _ _, HBw.out⟩
  have g1' : decide ((k : Int) < X) = false := by simpa using (by omega : ¬ (k : Int) < X)
  by_cases g2 : k < X + Y
  · have g2' : (k : Int) - X < Y := by omega
    have HE := hide (rdT_none HLB.out (fun l hl => by have := (hl.open HKN.out HXE.out HYE.out).1; have := HLA.out; omega))
    go_wp2
    go_ret2
    rw [HE.out.1, HE.out.2]
    exact ⟨_, _, _, rfl, OwG.nil _ _, HBw.out⟩
  have g2' : decide ((k : Int) - X < Y) = false := by simpa using (by omega : ¬ (k : Int) - X < Y)
  obtain ⟨aI, cI, hslI, hrI⟩ := slYb HR.out (X + Y) k (by omega) (by have := HKN.out; omega)
  rw [Int.natCast_add] at hslI
  have HRIB := hide (hrI wb (HR.out.carry HBw.out))
  obtain ⟨R0, hR0⟩ : ∃ R0, R0 = (b.take k).drop (X + Y) := ⟨_, rfl⟩
  rw [← hR0] at HRIB
  have HRL := hide (show k - (X + Y) = R0.length by rw [hR0, List.length_drop, HLA.out])
  have HIS := hide (show ∀ L, IsT b L → R0 = sm (pcsT L).length ++ ixT (pcsT L) ∧ X = (bodT (pcsT L)).length from fun L hL => by
    obtain ⟨h1, h2, h3⟩ := hL.open HKN.out HXE.out HYE.out
    refine ⟨by rw [hR0, h3], ?_⟩
    have := congrArg List.length h2
    rw [List.length_take, HLA.out] at this
    omega)
  obtain ⟨wq, hwq⟩ : ∃ wq, wq = wb.alloc (.cells #[.slice aI (k - (X + Y)) cI, .bool false] 71) := ⟨_, rfl⟩
  have hbq : Below wb.heap.size wb wq := by rw [hwq]; exact (Below.refl _ _).alloc (Nat.le_refl _) _
  have HS1 := hide (show RkS wb wq wb.heap.size R0 false from ⟨aI, k - (X + Y), cI, by rw [hwq]; exact RdrAt.new wb _ _, HRL.out, HRIB.out, Nat.le_refl _, hbq, by have := HRL.out; omega⟩)
  obtain ⟨Q, hQ⟩ : ∃ Q, Q = wb.heap.size := ⟨_, rfl⟩
  rw [← hQ] at HS1
  clear hrI hR0 hbq
  have hkb : k ≤ 16384 := by omega
  have hXk : X ≤ k := by omega
  go_wp2_with (first | (refine wpList_slN rfl (.tmp 49) (.tmp 52) (.tmp 55) 22 (by kernel_rfl) rfl rfl rfl rfl hslI ?_) | fail)
  rw [← hwq]
  try rw [← hQ]
  clear hwq hQ hslI g1 g1' g2 g2' wk2 e12
  refine (num_rk 1024 HS1.out).mono ?_
  rintro e w2 ⟨m, r1, bad1, rfl, hN1, hC1, -, -⟩
  have HS2 := hide hC1
  have hm4 : m ≤ 1024 := hN1.le.1
  have HMX := hide (show ∀ L, IsT b L → bad1 = false ∧ r1 = ixT (pcsT L) ∧ m = (pcsT L).length ∧ X = (bodT (pcsT L)).length from fun L hL => by
    obtain ⟨h1, h2⟩ := HIS.out L hL
    obtain ⟨g1, g2, g3, _⟩ := hL.ok
    have c3 := (cut_facts g2 g3).2.2.1
    rw [h1] at hN1
    obtain ⟨q1, q2, q3⟩ := hN1.exact c3 (by omega)
    exact ⟨q3, q2, q1, h2⟩)
  clear hN1 hC1 HS1
  go_wp2
  go_loopw [8, 9, 11] (fun v t i wr => ∃ (j A : Nat) (av : Option Addr) (nv cv : Nat) (es : List Ent) (r : List UInt8) (bad : Bool), j ≤ m ∧ i = .int .u64 j ∧ t = .int .i64 A ∧ v = .slice av nv cv ∧ A ≤ X ∧ Hid (es.length ≤ A) ∧ Hid (OwN wr (Q + 1) (.slice av nv cv) es) ∧ Hid (RkS wb wr Q r bad) ∧ Hid (RiI b j es A r bad)) (fun _ _ i _ => m - (intOf i).toNat)
  case atStart => exact ⟨0, 0, _, _, _, [], r1, bad1, Nat.zero_le _, rfl, rfl, rfl, Nat.zero_le _, hide (Nat.le_refl _), hide (OwG.nil _ _), HS2, hide (fun L hL => by
    obtain ⟨h1, h2, h3, h4⟩ := HMX.out L hL
    exact ⟨h1, by simp, by simp [bodT], by simpa using h2⟩)⟩
  case round =>
    obtain ⟨j, A, av, nv, cv, es, r, bad, hj, rfl, rfl, rfl, hAX, hEL, hown, HSr, hI⟩ := hrel
    clear HS2
    have hbc := HSr.out.cell
    by_cases hlt : j < m ∧ bad = false
    case neg =>
      have HBl := hide (show Below w.heap.size w wr from HBw.out.trans (HSr.out.below.mono HBw.out.size))
      cases bad with
      | true =>
        have HE := hide (rdT_none HLB.out (fun L hL => by have := (hI.out L hL).1; cases this))
        clear hlt
        by_cases hjm : j < m
        · have hjm' : (j : Int) < m := by omega
          go_wp2
          go_ret2
          rw [HE.out.1, HE.out.2]
          exact ⟨_, _, _, rfl, OwG.nil _ _, HBl.out⟩
        · have hjm' : decide ((j : Int) < m) = false := by simpa using (by omega : ¬ (j : Int) < m)
          go_wp2
          go_ret2
          rw [HE.out.1, HE.out.2]
          exact ⟨_, _, _, rfl, OwG.nil _ _, HBl.out⟩
      | false =>
        have hjm : ¬ j < m := fun h => hlt ⟨h, rfl⟩
        have hjm' : decide ((j : Int) < m) = false := by simpa using (by omega : ¬ (j : Int) < m)
        have HP := hide (show ∀ L, IsT b L → es = L from fun L hL => by
          obtain ⟨_, h1, _, _⟩ := hI.out L hL
          obtain ⟨_, _, h2, _⟩ := HMX.out L hL
          obtain ⟨g1, g2, g3, _⟩ := hL.ok
          rw [h1, List.take_of_length_le (by omega), (cut_facts g2 g3).2.1])
        have HQ1 := hide (show w.heap.size ≤ Q + 1 from Nat.le_trans HBw.out.size (Nat.le_succ_of_le HSr.out.ge))
        have hbd := rbuild_tb av nv cv es wr (OwG.rd ecN_len hown.out)
        clear hlt
        go_wp2_with fail
        clear hbc hjm'
        refine hbd.mono ?_
        rintro e w3 ⟨v3, rfl, o3, b3⟩
        obtain ⟨a3, c3, rfl⟩ := o3.form
        have HB3 := hide (show Below w.heap.size w w3 from HBl.out.trans (b3.mono HBl.out.size))
        have HO3 := hide (show OwN w3 w.heap.size (.slice av nv cv) es from OwG.mono (OwG.carry hown.out b3) HQ1.out)
        have HA3 := hide o3.rd
        clear hbd b3 o3 hown HSr HBl
        unfold mtV
        by_cases hz : bldE es = 0
        case neg =>
          have HE := hide (rdT_none HLB.out (fun L hL => by
            rw [HP.out L hL] at hz
            exact hz hL.1))
          have hz' : (bldE es != 0) = true := by simpa using hz
          generalize bldE es = z at *
          generalize bldM es = M at *
          generalize (bldL es).length = nn at *
          clear hz
          obtain ⟨w4, hw4⟩ : ∃ w4, w4 = w3.alloc (.cells #[.string { data := #[] }, .int .i64 M.1, .int .i64 M.2.1, .string (bs M.2.2.1), .string (bs M.2.2.2)] 26) := ⟨_, rfl⟩
          have HB4 := hide (show Below w.heap.size w w4 by rw [hw4]; exact HB3.out.alloc HB3.out.size _)
          go_wp2
          rw [← hw4]
          go_ret2
          rw [HE.out.1, HE.out.2]
          exact ⟨_, _, _, rfl, OwG.nil _ _, HB4.out⟩
        have HBK := hide (bld_ok hz)
        rw [HBK.out.2.2.2.2.1] at HA3 ⊢
        have HZ := hide hz
        rw [hz]
        clear hz
        generalize bldM es = M at *
        obtain ⟨w4, hw4⟩ : ∃ w4, w4 = w3.alloc (.cells #[.string { data := #[] }, .int .i64 M.1, .int .i64 M.2.1, .string (bs M.2.2.1), .string (bs M.2.2.2)] 26) := ⟨_, rfl⟩
        have hb4 : Below w3.heap.size w3 w4 := by rw [hw4]; exact (Below.refl _ _).alloc (Nat.le_refl _) _
        have HB4 := hide (show Below w.heap.size w w4 from HB3.out.trans (hb4.mono HB3.out.size))
        have HO4 := hide (OwG.carry HO3.out hb4)
        have cv1 := conv_y (HA3.out.carry hb4)
        have cv2 := conv_y (HR.out.carry HB4.out)
        have heq := eqK_bs (tabT es) b
        obtain ⟨nn, hnn⟩ : ∃ nn, nn = (tabT es).length := ⟨_, rfl⟩
        rw [← hnn] at cv1 ⊢
        rw [hw4] at cv1 cv2
        clear hb4 HB3 HO3 HA3 hnn
        by_cases hq : tabT es = b
        · have HE := hide (rdT_some (show IsT b es from ⟨HZ.out, hq⟩))
          rw [decide_eq_true hq] at heq
          clear hq
          go_wp2
          rw [← hw4]
          go_ret2
          rw [HE.out.1, HE.out.2]
          exact ⟨_, _, _, rfl, HO4.out, HB4.out⟩
        · have HE := hide (rdT_none HLB.out (fun L hL => by
            rw [HP.out L hL] at hq
            exact hq hL.2))
          rw [decide_eq_false hq] at heq
          clear hq
          go_wp2
          rw [← hw4]
          go_ret2
          rw [HE.out.1, HE.out.2]
          exact ⟨_, _, _, rfl, OwG.nil _ _, HB4.out⟩
    obtain ⟨hjm, rfl⟩ := hlt
    have hjm' : (j : Int) < m := by omega
    have HNX := hide (fun s r1 b1 m2 r2 b2 h1 h2 => hI.out.next (s := s) (r1 := r1) (b1 := b1) (m2 := m2) (r2 := r2) (b2 := b2) (fun L hL => (HMX.out L hL).2.2) hjm h1 h2)
    clear hI
    obtain ⟨D, hD⟩ : ∃ D, D = X - A := ⟨_, rfl⟩
    rw [← hD] at HNX
    have gD : (D : Int) % 18446744073709551616 = D := by omega
    have eD : (X : Int) - A = (D : Int) := by omega
    have hDA : A + D ≤ 16384 := by omega
    have HDA := hide (show A + D = X by omega)
    clear hD
    go_wp2_with fail
    clear hbc
    refine (txt_rk HSr.out).mono ?_
    rintro e wa ⟨s, ra, ba, rfl, hT1, hCa, hKa, hLa⟩
    have HSa := hide hCa
    have HOa := hide (OwG.loq hown.out (Nat.lt_succ_self Q) (hLa wr (LoQ.refl Q wr)))
    have HT1 := hide hT1
    clear hT1 hCa hKa hLa hown HSr
    go_wp2_with fail
    refine (num_rk D HSa.out).mono ?_
    rintro e wc ⟨m2, rc, bc, rfl, hN2, hCc, hKc, hLc⟩
    have HSc := hide hCc
    have HOc := hide (OwG.loq HOa.out (Nat.lt_succ_self Q) (hLc wa (LoQ.refl Q wa)))
    have hm2 : m2 ≤ D := hN2.le.1
    have HN2 := hide hN2
    have HNX2 := hide (HNX.out s ra ba m2 rc bc HT1.out HN2.out)
    have HBc := hide (show Below w.heap.size w wc from HBw.out.trans (HSc.out.below.mono HBw.out.size))
    obtain ⟨a6, c6, hsl6, hr6⟩ := slYb HR.out A (A + m2) (by omega) (by have := HKN.out; omega)
    rw [Nat.add_sub_cancel_left] at hsl6 hr6
    rw [Int.natCast_add] at hsl6
    have hR6 := hr6 wc (HR.out.carry HBc.out)
    have wm : IntKind.i64.wrap (m2 : Int) = m2 := by rw [IntKind.wrap_i64]; omega
    have wm2 : wrap64 (m2 : Int) = m2 := by unfold wrap64; omega
    obtain ⟨sg, hsg⟩ : ∃ sg, sg = (b.take (A + m2)).drop A := ⟨_, rfl⟩
    rw [← hsg] at hR6 HNX2
    have HSGL := hide (show sg.length ≤ m2 by rw [hsg]; exact seg_len b A m2)
    have hrk := rread_br a6 m2 c6 sg wc hR6
    clear hN2 hCc hKc hLc HSa HOa HNX hr6 hR6 hsg gD HT1 eD wm2
    go_wp2_with (first | (refine wpList_slN rfl (.tmp 83) (.tmp 84) (.tmp 87) 22 (by kernel_rfl) rfl rfl rfl rfl hsl6 ?_) | fail)
    clear hsl6 wm
    refine hrk.mono ?_
    rintro e w7 ⟨a7, n7, c7, rfl, o7, b7⟩
    have HB7 := hide (show Below w.heap.size w w7 from HBc.out.trans (b7.mono HBc.out.size))
    have HS7 := hide (HSc.out.carry b7)
    have HO7 := hide (OwG.carry HOc.out b7)
    have HP7 := hide (OwG.rd ecN_len o7)
    have hbc := HS7.out.cell
    clear hrk b7 o7 HSc HOc HBc
    by_cases hz : rdKE sg = 0
    case neg =>
      have HE := hide (rdT_none HLB.out (fun L hL => hz (HNX2.out L hL).1))
      have hz' : (rdKE sg != 0) = true := by simpa using hz
      generalize rdKE sg = z at *
      clear hz
      go_wp2
      go_ret2
      rw [HE.out.1, HE.out.2]
      exact ⟨_, _, _, rfl, OwG.nil _ _, HB7.out⟩
    rw [hz]
    clear hz
    cases bc with
    | true =>
      have HE := hide (rdT_none HLB.out (fun L hL => by have := (HNX2.out L hL).2.1; cases this))
      go_wp2
      go_ret2
      rw [HE.out.1, HE.out.2]
      exact ⟨_, _, _, rfl, OwG.nil _ _, HB7.out⟩
    | false =>
    have HLE7 := hide (rdKL_le sg)
    obtain ⟨b8, c8, w8, hrun8, o8, b8', k8⟩ := app_ents HO7.out (Nat.succ_le_of_lt HS7.out.lt) HP7.out (by have := HLE7.out; have := HSGL.out; have := hEL.out; omega)
    have HO8 := hide o8
    have HS8 := hide (HS7.out.low b8')
    have HEL8 := hide (show (es ++ rdKL sg).length ≤ A + m2 by rw [List.length_append]; have := HLE7.out; have := HSGL.out; have := hEL.out; omega)
    have HI8 := hide (show RiI b (j + 1) (es ++ rdKL sg) (A + m2) rc false from fun L hL => by
      obtain ⟨_, h2, h3, h4, h5⟩ := HNX2.out L hL
      exact ⟨rfl, h3, h4, h5⟩)
    obtain ⟨n8, hn8⟩ : ∃ n8, n8 = (es ++ rdKL sg).length := ⟨_, rfl⟩
    rw [← hn8] at hrun8 HO8
    have hAm : A + m2 ≤ X := by have := HDA.out; omega
    clear o8 b8' k8 hn8 HO7 HS7 HP7
    go_wp2_with (first | (at_builtin; refine wpList_runappY rfl (.tmp 100) (.tmp 101) 32 rfl rfl rfl rfl hrun8 ?_) | fail)
    clear hrun8
    go_roundw
    case rel => exact ⟨j + 1, A + m2, _, _, _, es ++ rdKL sg, rc, false, by omega, by go_num, by go_num, rfl, hAm, HEL8, HO8, HS8, HI8⟩
    case measure => simp only [intOf]; omega

end Go.Proofs.Ytjkoemdojdcmpaa
