/-
  What the document's Read of layer 12 does.
-/
import Derived.Test.YtjkoemdojdcmpaaBr3
namespace Go.Proofs.Ytjkoemdojdcmpaa
open Go.RowKit
set_option linter.unusedVariables false
set_option linter.unusedSimpArgs false

def RdX12 (b : List UInt8) (k : Nat) (es : List Ent) (lst r : List UInt8) (bad : Bool) : Prop :=
  ∀ L, readK b = some L → bad = false ∧ es = L.take k ∧ lst = ((L.take k).getLastD zE).1 ∧ r = entsB ((L.take k).getLastD zE) (L.drop k)
theorem rdX_next {b : List UInt8} {k m : Nat} {es : List Ent} {lst r r1 r2 r3 r4 r5 s v : List UInt8} {b1 b2 b3 b4 b5 : Bool} {m1 m3 : Nat} {y : UInt8} (h : RdX12 b k es lst r false) (hm : ∀ L, readK b = some L → m = L.length) (hk : k < m)
    (h1 : NumR lst.length r false m1 r1 b1) (h2 : TxtR r1 b1 s r2 b2) (h3 : NumR 1099511627776 r2 b2 m3 r3 b3) (h4 : BytR r3 b3 y r4 b4) (h5 : EndR y r4 b4 v r5 b5) :
    RdX12 b (k + 1) (es ++ [(lst.take m1 ++ s, (m3 : Int), decide (y = 1), v)]) (lst.take m1 ++ s) r5 b5 ∧ ((readK b).isSome = true → (lst.take m1 ++ s).length ≤ 64) := by
  have key : ∀ L, readK b = some L → ∃ hkL : k < L.length, (lst.take m1 ++ s, (m3 : Int), decide (y = 1), v) = L[k] ∧ r5 = entsB L[k] (L.drop (k + 1)) ∧ b5 = false ∧ es = L.take k := by
    intro L hL
    obtain ⟨_, e1, e2, e3⟩ := h L hL
    have hkL : k < L.length := by rw [← hm L hL]; exact hk
    have hc := (readK_can hL).2.2.2
    rw [e2] at h1
    obtain ⟨q1, q2, q3⟩ := rd_exact hc hkL e3 h1 h2 h3 h4 h5
    exact ⟨hkL, by rw [e2]; exact q1, q2, q3, e1⟩
  refine ⟨?_, ?_⟩
  · intro L hL
    obtain ⟨hkL, q1, q2, q3, q4⟩ := key L hL
    refine ⟨q3, ?_, ?_, ?_⟩
    · rw [q1, q4, List.take_succ_eq_append_getElem hkL]
    · rw [take_lastD L k hkL, ← q1]
    · rw [take_lastD L k hkL]; exact q2
  · intro hs
    obtain ⟨L, hL⟩ := Option.isSome_iff_exists.1 hs
    obtain ⟨hkL, q1, _⟩ := key L hL
    have := (entOk_sz (chS_ent (readK_can hL).2.2.2 _ (List.getElem_mem hkL))).2.1
    rw [← q1] at this
    exact this

set_option maxHeartbeats 8000000 in
set_option maxRecDepth 100000 in
theorem rread_br (a : Option Addr) (n c : Nat) (b : List UInt8) (w : World) (hrd : Rd w (.slice a n c) b) :
    Calls Try.prog 36 #[.slice a n c] w fun e w' => ∃ av nv cv, e = .returned (.tuple #[.slice av nv cv, .int .i64 (rdKE b)]) ∧ OwN w' w.heap.size (.slice av nv cv) (rdKL b) ∧ Below w.heap.size w w' := by
  have HNB := hide (show n = b.length by obtain ⟨_, _, e⟩ := rd_formX hrd; cases e; rfl)
  by_cases hg : 2048 < n
  · have hg' : (2048 : Int) < n := by omega
    obtain ⟨e1, e2⟩ := rdK_long (b := b) (by have := HNB.out; omega)
    rw [e1, e2]
    clear e1 e2 hrd
    go_enter Try.func36, Try.ntmps36
    go_wp2
    go_ret2
    exact ⟨_, _, _, rfl, OwG.nil _ _, Below.refl _ _⟩
  have hg' : decide ((2048 : Int) < n) = false := by simpa using (by omega : ¬ (2048 : Int) < n)
  have HG := hide (show ¬ 2048 < b.length by have := HNB.out; omega)
  have HRB := hide hrd
  obtain ⟨w1, hw1⟩ : ∃ w1, w1 = w.alloc (.cells #[.slice a n c, .bool false] 71) := ⟨_, rfl⟩
  have hb1 : Below w.heap.size w w1 := by rw [hw1]; exact (Below.refl _ _).alloc (Nat.le_refl _) _
  have HS1 := hide (show RkS w w1 w.heap.size b false from ⟨a, n, c, by rw [hw1]; exact RdrAt.new w _ _, HNB.out, hrd, Nat.le_refl _, hb1, by have := HG.out; omega⟩)
  obtain ⟨Q, hQ⟩ : ∃ Q, Q = w.heap.size := ⟨_, rfl⟩
  rw [← hQ] at HS1
  clear hrd hb1 hg
  go_enter Try.func36, Try.ntmps36
  go_wp2_with fail
  rw [← hw1]
  try rw [← hQ]
  clear hw1 hQ hg'
  refine (num_rk 1024 HS1.out).mono ?_
  rintro e w2 ⟨m, r1, bad1, rfl, hN1, hC1, -, -⟩
  have HS2 := hide hC1
  have hm4 : m ≤ 1024 := hN1.le.1
  have HX := hide (show ∀ L, readK b = some L → bad1 = false ∧ m = L.length ∧ r1 = entsB zE L from fun L hL => by
    obtain ⟨h1, h2, h3, h4⟩ := readK_can hL
    have h5 : b = sm L.length ++ entsB zE L := h1
    rw [h5] at hN1
    obtain ⟨q1, q2, q3⟩ := hN1.exact h3 (by omega)
    exact ⟨q3, q1, q2⟩)
  clear hN1 hC1 HS1
  go_wp2
  go_loopw [8, 5, 7] (fun i v s wr => ∃ k : Nat, k ≤ m ∧ i = .int .u64 k ∧ ∃ av nv cv, v = .slice av nv cv ∧ ∃ lst, s = .string (bs lst) ∧ ∃ es r bad, Hid (nv = es.length) ∧ Hid (es.length = k) ∧ Hid (OwN wr (Q + 1) (.slice av nv cv) es) ∧ Hid (RkS w wr Q r bad) ∧ Hid (lst.length ≤ 64) ∧ Hid (RdX12 b k es lst r bad)) (fun i _ _ _ => m - (intOf i).toNat)
  case atStart => exact ⟨0, Nat.zero_le _, rfl, none, 0, 0, rfl, [], rfl, [], r1, bad1, hide rfl, hide rfl, hide (OwG.nil _ _), HS2, hide (by simp), hide (fun L hL => by
    obtain ⟨h1, h2, h3⟩ := HX.out L hL
    exact ⟨h1, by simp, by simp [zE], by simpa using h3⟩)⟩
  case round =>
    obtain ⟨k, hk, rfl, av, nv, cv, rfl, lst, rfl, es, r, bad, hnv, hes, hown, HSr, hlst, hx⟩ := hrel
    clear HS2
    have hbc := HSr.out.cell
    by_cases hlt : k < m ∧ bad = false
    case neg =>
      cases bad with
      | true =>
        have HNO := hide (show readK b = none by
          cases h : readK b with
          | none => rfl
          | some L => have := (hx.out L h).1; cases this)
        obtain ⟨e1, e2⟩ := rdK_none HG.out HNO.out
        have HE := hide (And.intro e1 e2)
        have HBl := hide HSr.out.below
        clear e1 e2 hlt
        by_cases hkm : k < m
        · have hkm' : (k : Int) < m := by omega
          go_wp2
          go_ret2
          exact ⟨none, 0, 0, by rw [HE.out.1]; rfl, by rw [HE.out.2]; exact OwG.nil _ _, HBl.out⟩
        · have hkm' : decide ((k : Int) < m) = false := by simpa using (by omega : ¬ (k : Int) < m)
          go_wp2
          go_ret2
          exact ⟨none, 0, 0, by rw [HE.out.1]; rfl, by rw [HE.out.2]; exact OwG.nil _ _, HBl.out⟩
      | false =>
        have hkm : ¬ k < m := fun h => hlt ⟨h, rfl⟩
        have hkm' : decide ((k : Int) < m) = false := by simpa using (by omega : ¬ (k : Int) < m)
        have HL := hide (show ∀ L, readK b = some L → es = L from fun L hL => by
          have h1 := (hx.out L hL).2.1
          have h2 := (HX.out L hL).2.1
          rw [h1, List.take_of_length_le (by omega)])
        have HBl := hide HSr.out.below
        have HQ1 := hide (show w.heap.size ≤ Q + 1 from Nat.le_succ_of_le HSr.out.ge)
        have hw := rwrite_br av nv cv es wr (OwG.rd ecN_len hown.out)
        clear hlt
        go_wp2_with fail
        clear hbc hkm'
        refine hw.mono ?_
        rintro e w3 ⟨v3, rfl, o3, b3⟩
        have HB3 := hide (show Below w.heap.size w w3 from HBl.out.trans (b3.mono HBl.out.size))
        have HO3 := hide (show OwN w3 w.heap.size (.slice av nv cv) es from (hown.out.carry b3).mono HQ1.out)
        obtain ⟨a3, c3, rfl⟩ := o3.form
        have cv1 := conv_y o3.rd
        have cv2 := conv_y (HRB.out.carry HB3.out)
        obtain ⟨n3, hn3⟩ : ∃ n3, n3 = (wrKL es).length := ⟨_, rfl⟩
        rw [← hn3] at cv1 ⊢
        clear hw o3 b3 hn3 hown HSr
        by_cases he : wrKE es = 0
        · have heq := eqK_bs (wrKL es) b
          by_cases hb : wrKL es = b
          · rw [decide_eq_true hb] at heq
            obtain ⟨e1, e2⟩ := rdK_some HG.out (show readK b = some es by rw [← hb, (wrK_ok he).2.2.2.2]; exact readK_blk he)
            have HE := hide (And.intro e1 e2)
            rw [he]
            clear e1 e2 he hb
            go_wp2
            go_ret2
            exact ⟨av, nv, cv, by rw [HE.out.1]; rfl, by rw [HE.out.2]; exact HO3.out, HB3.out⟩
          · rw [decide_eq_false hb] at heq
            obtain ⟨e1, e2⟩ := rdK_none HG.out (show readK b = none by
              cases h : readK b with
              | none => rfl
              | some L =>
                have h1 := HL.out L h
                have h2 := (readK_wr HG.out h).2
                rw [← h1] at h2
                exact absurd h2 hb)
            have HE := hide (And.intro e1 e2)
            rw [he]
            clear e1 e2 he hb
            go_wp2
            go_ret2
            exact ⟨none, 0, 0, by rw [HE.out.1]; rfl, by rw [HE.out.2]; exact OwG.nil _ _, HB3.out⟩
        · obtain ⟨e1, e2⟩ := rdK_none HG.out (show readK b = none by
            cases h : readK b with
            | none => rfl
            | some L =>
              have h1 := HL.out L h
              have h2 := (readK_wr HG.out h).1
              rw [← h1] at h2
              exact absurd h2 he)
          have HE := hide (And.intro e1 e2)
          have he' : (wrKE es == 0) = false := by simpa using he
          generalize wrKE es = z at *
          clear e1 e2 cv1 cv2
          go_wp2
          go_ret2
          exact ⟨none, 0, 0, by rw [HE.out.1]; rfl, by rw [HE.out.2]; exact OwG.nil _ _, HB3.out⟩
    obtain ⟨hkm, rfl⟩ := hlt
    have hkm' : (k : Int) < m := by omega
    have hsl := bs_size lst
    obtain ⟨nl, hnl⟩ : ∃ nl, nl = lst.length := ⟨_, rfl⟩
    rw [← hnl] at hsl
    have hnl6 : nl ≤ 64 := by have := hlst.out; omega
    have g0 : (nl : Int) % 18446744073709551616 = nl := by omega
    have HNL := hide hnl
    have HNX := hide (fun m1 r1 b1 s r2 b2 m3 r3 b3 y r4 b4 v r5 b5 h1 h2 h3 h4 h5 => rdX_next (m := m) (m1 := m1) (r1 := r1) (b1 := b1) (s := s) (r2 := r2) (b2 := b2) (m3 := m3) (r3 := r3) (b3 := b3) (y := y) (r4 := r4) (b4 := b4) (v := v) (r5 := r5) (b5 := b5) hx.out (fun L hL => (HX.out L hL).2.1) hkm h1 h2 h3 h4 h5)
    rw [← hnl] at HNX
    clear hnl hx
    go_wp2_with fail
    clear hbc g0
    refine (num_rk nl HSr.out).mono ?_
    rintro e wa ⟨m1, ra, ba, rfl, hN1, hCa, hKa, hLa⟩
    have HSa := hide hCa
    have HLa := hide (hLa wr (LoQ.refl Q wr))
    have hm1 : m1 ≤ nl := hN1.le.1
    have HM1 := hide hN1
    clear hN1 hCa hKa hLa HSr
    have hx1 := bs_take lst m1 (by rw [← HNL.out]; exact hm1)
    have hm1' : (m1 : Int) ≤ nl := by omega
    have hw6 : wrap64 (m1 : Int) = m1 := by unfold wrap64; omega
    obtain ⟨wb, hwb⟩ : ∃ wb, wb = wa.alloc (.cells #[.string (bs (lst.take m1)), .int .i64 0, .bool false, .string { data := #[] }] 31) := ⟨_, rfl⟩
    have hbb : Below wa.heap.size wa wb := by rw [hwb]; exact (Below.refl _ _).alloc (Nat.le_refl _) _
    have HSb := hide (HSa.out.carry hbb)
    have HLb := hide (HLa.out.carry hbb)
    have HXb := hide (show EntAt wb wa.heap.size (lst.take m1, (0 : Int), false, []) by rw [hwb]; exact EntAt.new wa (lst.take m1, (0 : Int), false, []))
    have HQX := hide (show Q < wa.heap.size from HSa.out.lt)
    have HRX := hide (show wr.heap.size ≤ wa.heap.size from HLa.out.1)
    obtain ⟨X, hX⟩ : ∃ X, X = wa.heap.size := ⟨_, rfl⟩
    rw [← hX] at HXb HQX HRX
    clear hbb HSa HLa
    go_wp2_with fail
    rw [← hwb]
    try rw [← hX]
    clear hwb hX hx1 hm1' hw6
    have hS0 : EntAt wb X (lst.take m1, (0 : Int), false, []) := HXb.out
    have hK : Keeps (fun wx => EntAt wx X (lst.take m1, (0 : Int), false, [])) := fun w1 w2 h hb => h.carry hb
    refine regL_begin hK 6 (by kernel_rfl) hS0 ?_
    intro hS
    clear hS0 HXb
    have HSd := hide (HSb.out.carry (Below.refl _ _).drew)
    have HLd := hide (HLb.out.carry (Below.refl _ _).drew)
    generalize wb.drew = wd at *
    clear HSb HLb
    refine regL_plan [0, 1, 2] (fuel := 4) (a' := ?qaa1) (by kernel_rfl) (by kernel_rfl) (by kernel_rfl) ?qap1 hS ?qan1
    case qap1 =>
      iterate 3 (apply Yl.cons rfl (by kernel_rfl); focus (rintro wx x1; have k0 := (EntAt.cells x1).1; clear x1; simp only at k0; go_simp; all_goals (with_reducible rfl)); try simp only [Act.put, List.setIfInBounds_toArray, List.set_cons_zero, List.set_cons_succ])
      exact Yl.nil
    refine regL_callg (i := 3) (R := fun v wx => ∃ s rc bc, v = .string (bs s) ∧ TxtR ra ba s rc bc ∧ RkC w wd wx Q rc bc) rfl (by kernel_rfl) (by kernel_rfl) (by go_simp) ((txt_rk HSd.out).mono fun e wy ⟨s, rc, bc, h1, h2, h3⟩ => ⟨_, h1, s, rc, bc, rfl, h2, h3⟩) ?_
    rintro vc wc ⟨s, rc, bc, rfl, hT, hCc, hKc, hLc⟩
    have hSc : EntAt wc X (lst.take m1, (0 : Int), false, []) := hS.keepT hKc (by decide)
    refine ⟨hSc, ?_⟩
    have HSc := hide hCc
    have HLc := hide (hLc wr HLd.out)
    have HT := hide hT
    have HSL := hide (show s.length ≤ 1000000 by
      rcases hT with ⟨h, _⟩ | ⟨_, rfl, _⟩
      · have h1 := (ct_len h).2
        obtain ⟨_, _, _, _, _, _, _, _, h2⟩ := HSd.out
        omega
      · simp)
    clear hS hCc hKc hLc hT HSd HLd
    have hsz : ¬ 9223372036854775807 < (bs (lst.take m1)).size + (bs s).size := by
      have h1 := HSL.out
      have h2 := HNL.out
      rw [bs_size, bs_size, List.length_take]
      omega
    have hadd := bs_addK (lst.take m1) s
    have HKY := hide (show (lst.take m1 ++ s).length ≤ 1000064 by
      have h1 := HSL.out
      have h2 := HNL.out
      rw [List.length_append, List.length_take]
      omega)
    try simp only [Act.put, List.setIfInBounds_toArray, List.set_cons_zero, List.set_cons_succ]
    refine regL_plan [4, 5] (fuel := 1) (a' := ?qaa2) (by kernel_rfl) (by kernel_rfl) (by kernel_rfl) ?qap2 hSc ?qan2
    case qap2 =>
      iterate 2 (apply Yl.cons rfl (by kernel_rfl); focus (rintro wx x1; clear x1; go_simp; all_goals (with_reducible rfl)); try simp only [Act.put, List.setIfInBounds_toArray, List.set_cons_zero, List.set_cons_succ])
      exact Yl.nil
    obtain ⟨K, hKK⟩ : ∃ K, K = lst.take m1 ++ s := ⟨_, rfl⟩
    rw [← hKK] at hadd HKY
    have HKK := hide hKK
    clear hKK
    obtain ⟨we, hwe⟩ : ∃ we, we = wc.setCell ⟨X, 0, none⟩ (.string (bs K)) := ⟨_, rfl⟩
    have HXe := hide (show EntAt we X (K, (0 : Int), false, []) by rw [hwe]; exact hSc.s0 K)
    have HSe := hide (show RkS w we Q rc bc by rw [hwe]; exact HSc.out.set HQX.out 0 _)
    have HLe := hide (show LoQ Q wr we by rw [hwe]; exact HLc.out.set HRX.out 0 _)
    have hz0 := hSc.fz 0
    have hk0 := hSc.cells.1
    refine regL_last (i := 6) (w' := we) rfl (by kernel_rfl) (by kernel_rfl) (by kernel_rfl) (by rw [hwe, HKK.out]; go_simp) ?_
    refine wpAnyL_done (by kernel_rfl) ?_ _
    refine NoPanic.normal ?_
    try simp only [Act.put, List.setIfInBounds_toArray, List.set_cons_zero, List.set_cons_succ]
    clear hwe hSc hz0 hk0 hsz hadd HSc HLc hK
    go_wp2_with fail
    refine (num_rk 1099511627776 HSe.out).mono ?_
    rintro e wf ⟨m3, rf, bf, rfl, hN3, hCf, hKf, hLf⟩
    have hm3 : m3 ≤ 1099511627776 := hN3.le.1
    have HM3 := hide hN3
    have hXf := HXe.out.keepT hKf (by decide)
    have hSf := hCf
    have hLf' := hLf wr HLe.out
    clear hN3 hCf hKf hLf HXe HSe HLe
    obtain ⟨wg, hwg⟩ : ∃ wg, wg = wf.setCell ⟨X, 1, none⟩ (.int .i64 m3) := ⟨_, rfl⟩
    have HXg := hide (show EntAt wg X (K, (m3 : Int), false, []) by rw [hwg]; exact hXf.s1 m3)
    have HSg := hide (show RkS w wg Q rf bf by rw [hwg]; exact hSf.set HQX.out 1 _)
    have HLg := hide (show LoQ Q wr wg by rw [hwg]; exact hLf'.set HRX.out 1 _)
    have z1 := hXf.fz 1
    have x1 := hXf.cells.2.1
    clear hXf hSf hLf'
    go_wp2_with fail
    rw [← hwg]
    clear hwg z1 x1
    refine (byt_rk HSg.out).mono ?_
    rintro e wh ⟨y, rh, bh, rfl, hBy, hCh, hKh, hLh⟩
    have HBy := hide hBy
    have hXh := HXg.out.keepT hKh (by decide)
    have hSh := hCh
    have hLh' := hLh wr HLg.out
    clear hBy hCh hKh hLh HXg HSg HLg
    have hdy : (((y.toNat : Nat) : Int) == 1) = decide (y = 1) := eq_u8 y 1
    obtain ⟨dd, hdd⟩ : ∃ dd, dd = decide (y = 1) := ⟨_, rfl⟩
    rw [← hdd] at hdy
    have HDD := hide hdd
    clear hdd
    obtain ⟨wi, hwi⟩ : ∃ wi, wi = wh.setCell ⟨X, 2, none⟩ (.bool dd) := ⟨_, rfl⟩
    have HXi := hide (show EntAt wi X (K, (m3 : Int), dd, []) by rw [hwi]; exact hXh.s2 dd)
    have HSi := hide (show RkS w wi Q rh bh by rw [hwi]; exact hSh.set HQX.out 2 _)
    have HLi := hide (show LoQ Q wr wi by rw [hwi]; exact hLh'.set HRX.out 2 _)
    have z2 := hXh.fz 2
    have x2 := hXh.cells.2.2.1
    have i2 := HXi.out.cells.2.2.1
    rw [hwi] at i2
    clear hXh hSh hLh'
    have hnk := bs_size K
    obtain ⟨nk, hnk2⟩ : ∃ nk, nk = K.length := ⟨_, rfl⟩
    rw [← hnk2] at hnk HKY
    have HNK := hide hnk2
    have hnk6 : nk ≤ 1000064 := HKY.out
    clear hnk2
    cases dd with
    | true =>
      have HEND := hide (show EndR y rh bh [] rh bh from .inl ⟨of_decide_eq_true HDD.out.symm, rfl, rfl, rfl⟩)
      have HXj := hide HXi.out
      have HSj := hide HSi.out
      have HLj := hide HLi.out
      have i0 := HXi.out.cells.1
      have i1 := HXi.out.cells.2.1
      have i3 := HXi.out.cells.2.2.2
      rw [hwi] at i0 i1 i3
      obtain ⟨HNE, HNL6⟩ := HNX.out _ _ _ _ _ _ _ _ _ _ _ _ _ _ _ HM1.out HT.out HM3.out HBy.out HEND.out
      rw [← HKK.out, ← HDD.out] at HNE
      rw [← HKK.out, ← HNK.out] at HNL6
      have HNE' := hide HNE
      have HN6 := hide HNL6
      clear HNE HNL6 HXi HSi HLi
      by_cases hk64 : 64 < nk
      · have hk64' : (64 : Int) < nk := by omega
        have HNO := hide (show readK b = none by
          cases h : readK b with
          | none => rfl
          | some L => have := HN6.out (by rw [h]; rfl); omega)
        obtain ⟨e1, e2⟩ := rdK_none HG.out HNO.out
        have HE := hide (And.intro e1 e2)
        have HBj := hide HSj.out.below
        clear e1 e2
        go_wp2
        rw [← hwi]
        go_ret2
        exact ⟨none, 0, 0, by rw [HE.out.1]; rfl, by rw [HE.out.2]; exact OwG.nil _ _, HBj.out⟩
      have hk64' : decide ((64 : Int) < nk) = false := by simpa using (by omega : ¬ (64 : Int) < nk)
      have HK64 := hide (show K.length ≤ 64 by have := HNK.out; omega)
      have hk64n : nk ≤ 64 := by omega
      obtain ⟨g9, c9, w9, hrun, ho9, hb9, hk9⟩ := app_ent (hown.out.loq (Nat.lt_succ_self _) HLj.out) (Nat.succ_le_of_lt HSj.out.lt) (by have := hes.out; omega) (K, (m3 : Int), true, [])
      have HS9 := hide (HSj.out.low hb9)
      obtain ⟨n9, hn9⟩ : ∃ n9, n9 = es.length + 1 := ⟨_, rfl⟩
      rw [← hn9] at hrun ho9
      have HO9 := hide ho9
      have HN9 := hide (show n9 = (es ++ [(K, (m3 : Int), true, [])]).length by rw [hn9]; simp)
      have HE9 := hide (show (es ++ [(K, (m3 : Int), true, [])]).length = k + 1 by rw [List.length_append, hes.out]; rfl)
      clear ho9 hb9 hk9 hn9
      simp only at hrun
      rw [show wi.heap.size = wh.heap.size by rw [hwi]; simp] at hrun
      rw [hwi] at hrun
      clear hwi hk64
      go_wp2_with (at_builtin; refine wpList_runappY rfl (.tmp 69) (.tmp 71) 32 rfl rfl rfl rfl hrun ?_)
      clear hrun i0 i1 i2 i3 z2 x2
      go_roundw
      case rel => exact ⟨k + 1, by omega, by go_num, _, _, _, rfl, K, rfl, _, _, _, HN9, HE9, HO9, HS9, HK64, HNE'⟩
      case measure => simp only [intOf]; omega
    | false =>
      have i0 := HXi.out.cells.1
      rw [hwi] at i0
      go_wp2_with fail
      rw [← hwi]
      clear hwi i2 i0 z2 x2 hdy
      refine (txt_rk HSi.out).mono ?_
      rintro e wt ⟨V, rt, bt, rfl, hTV, hCt, hKt, hLt⟩
      have HEND := hide (show EndR y rh bh V rt bt from .inr ⟨of_decide_eq_false HDD.out.symm, hTV⟩)
      have hXt := HXi.out.keepT hKt (by decide)
      have hSt := hCt
      have hLt' := hLt wr HLi.out
      clear hTV hCt hKt hLt HXi HSi HLi
      obtain ⟨wi, hwi⟩ : ∃ wi, wi = wt.setCell ⟨X, 3, none⟩ (.string (bs V)) := ⟨_, rfl⟩
      have HXj := hide (show EntAt wi X (K, (m3 : Int), false, V) by rw [hwi]; exact hXt.s3 V)
      have HSj := hide (show RkS w wi Q rt bt by rw [hwi]; exact hSt.set HQX.out 3 _)
      have HLj := hide (show LoQ Q wr wi by rw [hwi]; exact hLt'.set HRX.out 3 _)
      have z2 := hXt.fz 3
      have x2 := hXt.cells.2.2.2
      have i0 := HXj.out.cells.1
      have i1 := HXj.out.cells.2.1
      have i2 := HXj.out.cells.2.2.1
      have i3 := HXj.out.cells.2.2.2
      rw [hwi] at i0 i1 i2 i3
      clear hXt hSt hLt'
      obtain ⟨HNE, HNL6⟩ := HNX.out _ _ _ _ _ _ _ _ _ _ _ _ _ _ _ HM1.out HT.out HM3.out HBy.out HEND.out
      rw [← HKK.out, ← HDD.out] at HNE
      rw [← HKK.out, ← HNK.out] at HNL6
      have HNE' := hide HNE
      have HN6 := hide HNL6
      clear HNE HNL6
      by_cases hk64 : 64 < nk
      · have hk64' : (64 : Int) < nk := by omega
        have HNO := hide (show readK b = none by
          cases h : readK b with
          | none => rfl
          | some L => have := HN6.out (by rw [h]; rfl); omega)
        obtain ⟨e1, e2⟩ := rdK_none HG.out HNO.out
        have HE := hide (And.intro e1 e2)
        have HBj := hide HSj.out.below
        clear e1 e2
        go_wp2
        rw [← hwi]
        go_ret2
        exact ⟨none, 0, 0, by rw [HE.out.1]; rfl, by rw [HE.out.2]; exact OwG.nil _ _, HBj.out⟩
      have hk64' : decide ((64 : Int) < nk) = false := by simpa using (by omega : ¬ (64 : Int) < nk)
      have HK64 := hide (show K.length ≤ 64 by have := HNK.out; omega)
      have hk64n : nk ≤ 64 := by omega
      obtain ⟨g9, c9, w9, hrun, ho9, hb9, hk9⟩ := app_ent (hown.out.loq (Nat.lt_succ_self _) HLj.out) (Nat.succ_le_of_lt HSj.out.lt) (by have := hes.out; omega) (K, (m3 : Int), false, V)
      have HS9 := hide (HSj.out.low hb9)
      obtain ⟨n9, hn9⟩ : ∃ n9, n9 = es.length + 1 := ⟨_, rfl⟩
      rw [← hn9] at hrun ho9
      have HO9 := hide ho9
      have HN9 := hide (show n9 = (es ++ [(K, (m3 : Int), false, V)]).length by rw [hn9]; simp)
      have HE9 := hide (show (es ++ [(K, (m3 : Int), false, V)]).length = k + 1 by rw [List.length_append, hes.out]; rfl)
      clear ho9 hb9 hk9 hn9
      simp only at hrun
      rw [show wi.heap.size = wt.heap.size by rw [hwi]; simp] at hrun
      rw [hwi] at hrun
      clear hwi hk64
      go_wp2_with (at_builtin; refine wpList_runappY rfl (.tmp 69) (.tmp 71) 32 rfl rfl rfl rfl hrun ?_)
      clear hrun i0 i1 i2 i3 z2 x2
      go_roundw
      case rel => exact ⟨k + 1, by omega, by go_num, _, _, _, rfl, K, rfl, _, _, _, HN9, HE9, HO9, HS9, HK64, HNE'⟩
      case measure => simp only [intOf]; omega
end Go.Proofs.Ytjkoemdojdcmpaa
