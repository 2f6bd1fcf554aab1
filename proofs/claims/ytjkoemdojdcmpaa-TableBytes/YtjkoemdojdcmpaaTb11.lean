/-
  What table.opened and table.Read do.
-/
import Derived.Test.YtjkoemdojdcmpaaTb10
namespace Go.Proofs.Ytjkoemdojdcmpaa
open Go.RowKit
set_option linter.unusedVariables false
set_option linter.unusedSimpArgs false

theorem IsT.open {b : List UInt8} {l : List Ent} {k X Y : Nat} (h : IsT b l) (hk : k + 12 = b.length) (hX : X = un4 ((b.drop k).take 4)) (hY : Y = un4 (((b.drop k).drop 4).take 4)) :
    X + Y ≤ (b.take k).length ∧ (b.take k).take X = bodT (pcsT l) ∧ (b.take k).drop (X + Y) = sm (pcsT l).length ++ ixT (pcsT l) := by
  obtain ⟨x, h1, h2, h3, h4⟩ := h.parts
  obtain ⟨h5, h6⟩ := h.nums
  have e : b.length - 12 = k := by omega
  rw [e] at h2 h4 h5 h6
  rw [← hX] at h5
  rw [← hY] at h6
  rw [h2, h3, h5, h6]
  refine ⟨by simp only [List.length_append]; omega, List.take_left, ?_⟩
  rw [← List.append_assoc, ← List.length_append, List.drop_left]
theorem slY_some {w : World} {g off n c : Nat} {l : List UInt8} (h : Rd w (.slice (some ⟨g, off, none⟩) n c) l) (k : Nat) (hk : k < n) : Rd w (.slice (some ⟨g, off + k, none⟩) (n - k) (c - k)) (l.drop k) := by
  have hc := h.cap
  rcases h with ⟨rfl, e | ⟨x, d, e⟩⟩ | ⟨b', off', c', e, h1, h2, h3⟩
  · cases e
  · cases e
    simp at hk
  · cases e
    refine .inr ⟨g, off + k, c - k, by rw [List.length_drop], by rw [List.length_drop]; omega, by omega, fun j hj => ?_⟩
    rw [List.length_drop] at hj
    rw [List.getElem_drop, Nat.add_assoc]
    exact h3 (k + j) (by omega)
def OpP (b : List UInt8) (L : List Ent) (ok : Bool) : Prop := L.length ≤ 16384 ∧ ∀ l, IsT b l → L = l ∧ ok = true
theorem OpP.no {b : List UInt8} (h : ∀ l, ¬ IsT b l) (ok : Bool) : OpP b [] ok := ⟨Nat.zero_le _, fun l hl => (h l hl).elim⟩
theorem OpP.of {b bl ix : List UInt8} {k X Y : Nat} {L : List Ent} {ok : Bool} (hb : b.length ≤ 16384) (hk : k + 12 = b.length) (hX : X = un4 ((b.drop k).take 4)) (hY : Y = un4 (((b.drop k).drop 4).take 4)) (h1 : bl = (b.take k).take X) (h2 : ix = (b.take k).drop (X + Y)) (h : EnP bl ix L ok) : OpP b L ok := by
  refine ⟨?_, fun l hl => ?_⟩
  · have := h.1
    rw [h1, List.length_take, List.length_take] at this
    omega
  · obtain ⟨_, e2, e3⟩ := hl.open hk hX hY
    obtain ⟨g1, g2, g3, _⟩ := hl.ok
    obtain ⟨c1, c2, c3, _⟩ := cut_facts g2 g3
    have := h.2 (pcsT l) c1 c3 (by rw [h1, e2]) (by rw [h2, e3])
    rwa [c2] at this

set_option maxHeartbeats 4000000 in
set_option maxRecDepth 100000 in
theorem opened_tb (a : Option Addr) (n c : Nat) (b : List UInt8) (w : World) (hrd : Rd w (.slice a n c) b) (hb : n ≤ 16384) :
    Calls Try.prog 24 #[.slice a n c] w fun e w' => ∃ av nv cv L ok, e = .returned (.tuple #[.slice av nv cv, .bool ok]) ∧ OwN w' w.heap.size (.slice av nv cv) L ∧ OpP b L ok ∧ Below w.heap.size w w' := by
  have HN := hide hrd.cap.1
  by_cases h12 : n < 12
  · have h12' : (n : Int) < 12 := by omega
    have HE := hide (OpP.no (b := b) (fun l hl => by obtain ⟨x, h1, _⟩ := hl.parts; have := HN.out; omega) false)
    go_enter Try.func24, Try.ntmps24
    go_wp2
    go_ret2
    exact ⟨_, _, _, [], _, rfl, OwG.nil _ _, HE.out, Below.refl _ _⟩
  have h12' : decide ((n : Int) < 12) = false := by simpa using (by omega : ¬ (n : Int) < 12)
  obtain ⟨k, hk⟩ : ∃ k, k + 12 = n := ⟨n - 12, by omega⟩
  have HKN := hide (show k + 12 = b.length by rw [hk]; exact HN.out)
  obtain ⟨aA, cA, hslA, hrA⟩ := slYh hrd .i64 k (by have := HKN.out; omega)
  obtain ⟨aE, cE, hslE, hrE⟩ := slYl hrd .i64 k (by have := HKN.out; omega)
  have enk : n - k = 12 := by omega
  rw [enk] at hslE hrE
  have HRA := hide (hrA w hrd)
  have hRE := hrE w hrd
  have HLE := hide (show (b.drop k).length = 12 by rw [List.length_drop]; have := HKN.out; omega)
  have HLA := hide (show (b.take k).length = k by rw [List.length_take]; have := HKN.out; omega)
  obtain ⟨E, hEE⟩ : ∃ E, E = b.drop k := ⟨_, rfl⟩
  rw [← hEE] at hRE HLE
  obtain ⟨gE, oE, haE, -⟩ := rd_cellX hRE 0 (by rw [HLE.out]; omega)
  subst haE
  have hcE : 12 ≤ cE := hRE.cap.2
  have hc4 : (4 : Int) ≤ cE := by omega
  have hc5 : ¬ cE = 4 := by omega
  have hr4 := fun wx (hx : Rd wx (.slice (some ⟨gE, oE, none⟩) 12 cE) E) => (rd_takeX hx 4 (by rw [HLE.out]; omega)).2
  have hr5 := fun wx (hx : Rd wx (.slice (some ⟨gE, oE, none⟩) 12 cE) E) => slY_some hx 4 (by omega)
  obtain ⟨X, hX⟩ : ∃ X, X = un4 (E.take 4) := ⟨_, rfl⟩
  obtain ⟨Y, hY⟩ : ∃ Y, Y = un4 ((E.drop 4).take 4) := ⟨_, rfl⟩
  have HXB := hide (show X < 4294967296 by rw [hX]; have := un4_lt (E.take 4); rw [List.length_take, HLE.out] at this; exact this)
  have HYB := hide (show Y < 4294967296 by rw [hY]; have := un4_lt ((E.drop 4).take 4); rw [List.length_take, List.length_drop, HLE.out] at this; exact this)
  have HX := hide (fun wx (hx : Rd wx (.slice (some ⟨gE, oE, none⟩) 12 cE) E) => (num_tb (some ⟨gE, oE, none⟩) 4 cE (E.take 4) wx (hr4 wx hx) (by rw [List.length_take, HLE.out]; omega)).mono (fun e w1 (h : e = .returned (.int .i64 (un4 ((E.take 4).take 4) : Nat)) ∧ w1 = wx) => (⟨by rw [h.1, List.take_take, Nat.min_self, ← hX], by rw [h.2]; exact Below.refl _ _⟩ : e = .returned (.int .i64 X) ∧ Below wx.heap.size wx w1)))
  have HY := hide (fun wx (hx : Rd wx (.slice (some ⟨gE, oE, none⟩) 12 cE) E) => (num_tb (some ⟨gE, oE + 4, none⟩) 8 (cE - 4) (E.drop 4) wx (hr5 wx hx) (by rw [List.length_drop, HLE.out]; omega)).mono (fun e w1 (h : e = .returned (.int .i64 (un4 ((E.drop 4).take 4) : Nat)) ∧ w1 = wx) => (⟨by rw [h.1, ← hY], by rw [h.2]; exact Below.refl _ _⟩ : e = .returned (.int .i64 Y) ∧ Below wx.heap.size wx w1)))
  have HXE := hide (show X = un4 ((b.drop k).take 4) by rw [hX, hEE])
  have HYE := hide (show Y = un4 (((b.drop k).drop 4).take 4) by rw [hY, hEE])
  have HRE := hide hRE
  have HRD := hide hrd
  have wk : IntKind.i64.wrap ((n : Int) - 12) = (k : Int) := by rw [IntKind.wrap_i64]; omega
  have wk2 : wrap64 ((n : Int) - 12) = (k : Int) := by unfold wrap64; omega
  clear hrA hrE enk hr4 hr5 hX hY hEE hRE hrd
  go_enter Try.func24, Try.ntmps24
  go_wp2
  go_quiet (fail)
  clear hslA hslE wk wk2 h12'
  go_wp2
  have HB1 := hide (below_drewN (Below.refl w.heap.size w) nq)
  generalize w.drewN nq = w1 at *
  have hK : Keeps (fun wx => Rd wx (.slice (some ⟨gE, oE, none⟩) 12 cE) E ∧ Below w.heap.size w wx) := fun w1 w2 h hb => ⟨h.1.carry hb, h.2.trans (hb.mono h.2.size)⟩
  refine reg_begin hK (by kernel_rfl) ⟨HRE.out.carry HB1.out, HB1.out⟩ ?_
  intro hS
  clear HB1
  generalize w1.drew = wd at *
  refine reg_plan [0, 1, 3, 4] (fuel := 4) (a' := ?qaa1) (by kernel_rfl) (by kernel_rfl) (by kernel_rfl) ?qap1 hS ?qan1
  case qap1 =>
    iterate 4 (apply Yl.cons rfl (by kernel_rfl); focus (rintro wx ⟨x1, x2⟩; clear x1 x2; go_simp; all_goals (with_reducible rfl)); try simp only [Act.put, List.setIfInBounds_toArray, List.set_cons_zero, List.set_cons_succ])
    exact Yl.nil
  refine reg_callv hK (i := 2) (v := .int .i64 X) rfl (by kernel_rfl) (by kernel_rfl) (by go_simp) hS (HX.out _ hS.1) ?_
  clear hS
  intro w23 hS
  try simp only [Act.put, List.setIfInBounds_toArray, List.set_cons_zero, List.set_cons_succ]
  refine reg_callv hK (i := 5) (v := .int .i64 Y) rfl (by kernel_rfl) (by kernel_rfl) (by go_simp) hS (HY.out _ hS.1) ?_
  clear hS
  intro w26 hS
  try simp only [Act.put, List.setIfInBounds_toArray, List.set_cons_zero, List.set_cons_succ]
  refine reg_plan [6, 7] (fuel := 0) (a' := ?qaa2) (by kernel_rfl) (by kernel_rfl) (by kernel_rfl) ?qap2 hS ?qan2
  case qap2 =>
    iterate 2 (apply Yl.cons rfl (by kernel_rfl); focus (rintro wx ⟨x1, x2⟩; clear x1 x2; go_simp; all_goals (with_reducible rfl)); try simp only [Act.put, List.setIfInBounds_toArray, List.set_cons_zero, List.set_cons_succ])
    exact Yl.nil
  refine wpAnyH_done (by kernel_rfl) ?_ _
  refine NoPanic.normal ?_
  try simp only [Act.put, List.setIfInBounds_toArray, List.set_cons_zero, List.set_cons_succ]
  have HB2 := hide hS.2
  clear hS hK hc4 hc5 hcE
  have hXb : X < 4294967296 := HXB.out
  have hYb : Y < 4294967296 := HYB.out
  by_cases hbig : k < X + Y
  · have hbig' : (k : Int) < (X : Int) + Y := by omega
    have HE := hide (OpP.no (b := b) (fun l hl => by have := (hl.open HKN.out HXE.out HYE.out).1; have := HLA.out; omega) false)
    go_wp2
    go_ret2
    exact ⟨_, _, _, [], _, rfl, OwG.nil _ _, HE.out, HB2.out⟩
  have hbig' : decide ((k : Int) < (X : Int) + Y) = false := by simpa using (by omega : ¬ (k : Int) < (X : Int) + Y)
  obtain ⟨a6, c6, hsl6, hr6⟩ := slYh HRA.out .i64 X (by rw [HLA.out]; omega)
  obtain ⟨a7, c7, hsl7, hr7⟩ := slYl HRA.out .i64 (X + Y) (by rw [HLA.out]; omega)
  have wxy : IntKind.i64.wrap ((X : Int) + Y) = ((X + Y : Nat) : Int) := by rw [IntKind.wrap_i64]; omega
  have HOF := hide (fun L ok => OpP.of (L := L) (ok := ok) (by rw [← HN.out]; exact hb) HKN.out HXE.out HYE.out rfl rfl)
  obtain ⟨bl, hbl⟩ : ∃ bl, bl = (b.take k).take X := ⟨_, rfl⟩
  obtain ⟨ix, hix⟩ : ∃ ix, ix = (b.take k).drop (X + Y) := ⟨_, rfl⟩
  have HLB := hide (show bl.length ≤ 100000 by rw [hbl, List.length_take, HLA.out]; omega)
  have HLI := hide (show ix.length ≤ 100000 by rw [hix, List.length_drop, HLA.out]; omega)
  rw [← hbl] at hr6 HOF
  rw [← hix] at hr7 HOF
  have HEN := hide (fun wx (hx : Below w.heap.size w wx) => (entriesOf_tb a6 X c6 bl a7 (k - (X + Y)) c7 ix wx (hr6 wx (HRA.out.carry hx)) (hr7 wx (HRA.out.carry hx)) HLB.out HLI.out).mono (fun e w1 h => (by
    obtain ⟨av, nv, cv, L, ok, h1, h2, h3, h4⟩ := h
    exact ⟨_, h1, ⟨av, nv, cv, L, ok, rfl, OwG.mono h2 hx.size, h3⟩, h4⟩ : ∃ v, e = .returned v ∧ (∃ av nv cv L ok, v = .tuple #[.slice av nv cv, .bool ok] ∧ OwN w1 w.heap.size (.slice av nv cv) L ∧ EnP bl ix L ok) ∧ Below wx.heap.size wx w1)))
  obtain ⟨XY, hXY⟩ : ∃ XY, XY = X + Y := ⟨_, rfl⟩
  rw [← hXY] at hsl7 wxy HEN
  have hxy2 : XY ≤ k := by omega
  clear hr6 hr7 hbl hix
  go_wp2
  have hK : Keeps (fun wx => Below w.heap.size w wx) := fun w1 w2 h hb => h.trans (hb.mono h.size)
  refine reg_begin hK (by kernel_rfl) HB2.out ?_
  intro hS
  clear HB2 hXb hYb hbig hbig' hXY
  refine reg_plan [0, 1, 2, 3, 4, 5, 6, 7] (fuel := 5) (a' := ?qba1) (by kernel_rfl) (by kernel_rfl) (by kernel_rfl) ?qbp1 hS ?qbn1
  case qbp1 =>
    iterate 8 (apply Yl.cons rfl (by kernel_rfl); focus (rintro wx x1; clear x1; go_simp; all_goals (with_reducible rfl)); try simp only [Act.put, List.setIfInBounds_toArray, List.set_cons_zero, List.set_cons_succ])
    exact Yl.nil
  refine reg_call hK (i := 8) (R := fun v wx => ∃ av nv cv L ok, v = .tuple #[.slice av nv cv, .bool ok] ∧ OwN wx w.heap.size (.slice av nv cv) L ∧ EnP bl ix L ok) rfl (by kernel_rfl) (by kernel_rfl) (by go_simp) hS (HEN.out _ hS) (fun v w1 w2 ⟨av, nv, cv, L, ok, h1, h2, h3⟩ hb => ⟨av, nv, cv, L, ok, h1, OwG.carry h2 hb, h3⟩) ?_
  intro v41 w41 hKn hRn hSn
  clear hK hS
  have hK := hKn
  have hS := hSn
  clear hKn hSn
  obtain ⟨av, nv, cv, L, ok, rfl, hoz, hpz⟩ := hRn
  have HPZ := hide hpz
  clear hoz hpz
  try simp only [Act.put, List.setIfInBounds_toArray, List.set_cons_zero, List.set_cons_succ]
  refine reg_plan [9, 10, 11, 12] (fuel := 0) (a' := ?qba2) (by kernel_rfl) (by kernel_rfl) (by kernel_rfl) ?qbp2 hS ?qbn2
  case qbp2 =>
    iterate 4 (apply Yl.cons rfl (by kernel_rfl); focus (rintro wx ⟨x1, -⟩; clear x1; go_simp; all_goals (with_reducible rfl)); try simp only [Act.put, List.setIfInBounds_toArray, List.set_cons_zero, List.set_cons_succ])
    exact Yl.nil
  refine wpAnyH_done (by kernel_rfl) ?_ _
  refine NoPanic.normal ?_
  try simp only [Act.put, List.setIfInBounds_toArray, List.set_cons_zero, List.set_cons_succ]
  obtain ⟨hBz, av', nv', cv', L', ok', e', hO', hP'⟩ := hS
  simp only [Value.tuple.injEq, List.toArray_eq_iff, Array.mk.injEq, List.cons.injEq, Value.slice.injEq, Value.bool.injEq, and_true] at e'
  obtain ⟨⟨rfl, rfl, rfl⟩, rfl⟩ := e'
  have HBz := hide hBz
  have HOz := hide hO'
  have HPz := hide hP'
  clear hBz hO' hP' hK hsl6 hsl7
  go_wp2
  go_ret2
  exact ⟨_, _, _, L', _, rfl, HOz.out, HOF.out L' ok HPz.out, HBz.out⟩

set_option maxHeartbeats 4000000 in
set_option maxRecDepth 100000 in
theorem read_tb (a : Option Addr) (n c : Nat) (b : List UInt8) (w : World) (hrd : Rd w (.slice a n c) b) :
    Calls Try.prog 14 #[.slice a n c] w fun e w' => ∃ av nv cv, e = .returned (.tuple #[.slice av nv cv, .int .i64 (rdTE b)]) ∧ OwN w' w.heap.size (.slice av nv cv) (rdTL b) ∧ Below w.heap.size w w' := by
  have HN := hide hrd.cap.1
  have HR := hide hrd
  by_cases hbig : 16384 < n
  · have hbig' : (16384 : Int) < n := by omega
    have HE := hide (rdT_long (b := b) (by have := HN.out; omega))
    go_enter Try.func14, Try.ntmps14
    go_wp2
    go_ret2
    rw [HE.out.1, HE.out.2]
    exact ⟨_, _, _, rfl, OwG.nil _ _, Below.refl _ _⟩
  have hbig' : decide ((16384 : Int) < n) = false := by simpa using (by omega : ¬ (16384 : Int) < n)
  have HLB := hide (show ¬ 16384 < b.length by have := HN.out; omega)
  have hop := opened_tb a n c b w hrd (by omega)
  clear hrd
  go_enter Try.func14, Try.ntmps14
  go_wp2_with fail
  refine hop.mono ?_
  rintro e w1 ⟨av, nv, cv, L, ok, rfl, o1, hp, b1⟩
  have HB1 := hide b1
  have HO1 := hide o1
  have HP := hide hp
  clear hop hbig' b1 o1 hp
  cases ok with
  | false =>
    have HE := hide (rdT_none HLB.out (fun l hl => by have := (HP.out.2 l hl).2; cases this))
    go_wp2
    go_ret2
    rw [HE.out.1, HE.out.2]
    exact ⟨_, _, _, rfl, OwG.nil _ _, HB1.out⟩
  | true =>
    have hbd := build_tb av nv cv L w1 (OwG.rd ecN_len HO1.out)
    go_wp2_with fail
    refine hbd.mono ?_
    rintro e w2 ⟨v2, rfl, o2, b2⟩
    obtain ⟨a2, c2, rfl⟩ := o2.form
    have HB2 := hide (show Below w.heap.size w w2 from HB1.out.trans (b2.mono HB1.out.size))
    have HO2 := hide (OwG.carry HO1.out b2)
    have HA2 := hide o2.rd
    clear hbd b2 o2 HB1 HO1
    unfold mtV
    by_cases hz : bldE L = 0
    case neg =>
      have HE := hide (rdT_none HLB.out (fun l hl => by
        have e := (HP.out.2 l hl).1
        rw [e] at hz
        exact hz hl.1))
      have hz' : (bldE L != 0) = true := by simpa using hz
      generalize bldE L = z at *
      generalize bldM L = M at *
      generalize (bldL L).length = nn at *
      clear hz
      obtain ⟨w3, hw3⟩ : ∃ w3, w3 = w2.alloc (.cells #[.string { data := #[] }, .int .i64 M.1, .int .i64 M.2.1, .string (bs M.2.2.1), .string (bs M.2.2.2)] 26) := ⟨_, rfl⟩
      have HB3 := hide (show Below w.heap.size w w3 by rw [hw3]; exact HB2.out.alloc HB2.out.size _)
      go_wp2
      rw [← hw3]
      go_ret2
      rw [HE.out.1, HE.out.2]
      exact ⟨_, _, _, rfl, OwG.nil _ _, HB3.out⟩
    have HBK := hide (bld_ok hz)
    rw [HBK.out.2.2.2.2.1] at HA2 ⊢
    have HZ := hide hz
    rw [hz]
    clear hz
    generalize bldM L = M at *
    obtain ⟨w3, hw3⟩ : ∃ w3, w3 = w2.alloc (.cells #[.string { data := #[] }, .int .i64 M.1, .int .i64 M.2.1, .string (bs M.2.2.1), .string (bs M.2.2.2)] 26) := ⟨_, rfl⟩
    have hb3 : Below w2.heap.size w2 w3 := by rw [hw3]; exact (Below.refl _ _).alloc (Nat.le_refl _) _
    have HB3 := hide (show Below w.heap.size w w3 from HB2.out.trans (hb3.mono HB2.out.size))
    have HO3 := hide (OwG.carry HO2.out hb3)
    have heq := equal_tb (.slice a2 (tabT L).length c2) (.slice a n c) (tabT L) b w3 (HA2.out.carry hb3) (HR.out.carry HB3.out)
    obtain ⟨nn, hnn⟩ : ∃ nn, nn = (tabT L).length := ⟨_, rfl⟩
    rw [← hnn] at heq ⊢
    clear hb3 HB2 HO2 HA2 hnn
    go_wp2_with fail
    rw [← hw3]
    clear hw3
    refine heq.mono ?_
    rintro e w4 ⟨rfl, rfl⟩
    clear heq
    by_cases hq : tabT L = b
    · have HE := hide (rdT_some (show IsT b L from ⟨HZ.out, hq⟩))
      rw [decide_eq_true hq]
      clear hq
      go_wp2
      go_ret2
      rw [HE.out.1, HE.out.2]
      exact ⟨_, _, _, rfl, HO3.out, HB3.out⟩
    · have HE := hide (rdT_none HLB.out (fun l hl => by
        have e := (HP.out.2 l hl).1
        rw [e] at hq
        exact hq hl.2))
      rw [decide_eq_false hq]
      clear hq
      go_wp2
      go_ret2
      rw [HE.out.1, HE.out.2]
      exact ⟨_, _, _, rfl, OwG.nil _ _, HB3.out⟩

end Go.Proofs.Ytjkoemdojdcmpaa
