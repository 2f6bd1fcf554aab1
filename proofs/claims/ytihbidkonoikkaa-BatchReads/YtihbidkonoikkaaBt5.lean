/-
  What batch.operations, opened and Read do.
-/
import Derived.Test.YtihbidkonoikkaaBt4
namespace Go.Proofs.Ytihbidkonoikkaa
open Go.RowKit
set_option linter.unusedVariables false
set_option linter.unusedSimpArgs false

theorem cutO_len {l r : List UInt8} {o : Opn} (h : cutO l = some (o, r)) : r.length ≤ l.length := by
  have := congrArg List.length (cutO_can h)
  rw [List.length_append] at this
  omega
theorem app_op {w : World} {base : Nat} {v : Value} {l : List Opn} (h : OwO w base v l) (hb : base ≤ w.heap.size) (hl : l.length ≤ 1000000) (o : Opn) :
    ∃ g c w', (Builtin.append_ #[26, 26] 26 #[v, .slice (some ⟨w.heap.size, 0, none⟩) 1 1]).run Try.prog (w.alloc (.cells #[.string (bs o.1), .bool o.2.1, .string (bs o.2.2)] 34)) = .ok (.slice (some ⟨g, 0, none⟩) (l.length + 1) c) w' ∧
      OwO w' base (.slice (some ⟨g, 0, none⟩) (l.length + 1) c) (l ++ [o]) ∧ Below base w w' ∧ KeepG 34 w w' :=
  app_oneG ecO_len (by decide) ecO_one Try.underlying26 Try.infoOp rfl h hb (by omega) (by unfold maxLen; omega) o _ rfl

def OpsP (w w' : World) (m : Nat) (l : List UInt8) (v : Value) (b : Bool) : Prop :=
  (∃ es r, itO cutP m l = some (es, r) ∧ b = decide (r = []) ∧ OwO w' w.heap.size v es) ∨ (itO cutP m l = none ∧ b = false)

set_option maxHeartbeats 4000000 in
set_option maxRecDepth 100000 in
theorem operations_bt (a : Option Addr) (n c : Nat) (l : List UInt8) (m : Nat) (w : World) (hrd : Rd w (.slice a n c) l) (hm : m ≤ 64) (hl : l.length ≤ 1000000) :
    Calls Try.prog 34 #[.slice a n c, .int .i64 m] w fun e w' => ∃ av nv cv b, e = .returned (.tuple #[.slice av nv cv, .bool b]) ∧ OpsP w w' m l (.slice av nv cv) b ∧ Below w.heap.size w w' := by
  obtain ⟨W0, hW0⟩ : ∃ W0, w.alloc (.cells #[.slice a n c] 28) = W0 := ⟨_, rfl⟩
  obtain ⟨pb, hpb⟩ : ∃ p, w.heap.size = p := ⟨_, rfl⟩
  have hb0 : Below w.heap.size w W0 := by rw [← hW0]; exact (Below.refl _ _).alloc (Nat.le_refl _) _
  have HP0 := hide (show Bx W0 pb 28 #[.slice a n c] by rw [← hW0, ← hpb]; exact Bx.new w _ _)
  have HB0 := hide hb0
  have HN := hide (show n = l.length by obtain ⟨_, _, e⟩ := rd_formX hrd; cases e; rfl)
  have HR := hide hrd
  have HL := hide hl
  have HPW := hide (show w.heap.size ≤ pb from Nat.le_of_eq hpb)
  clear hb0 hrd hl
  go_enter Try.func34, Try.ntmps34
  go_wp2
  clear hW0 hpb
  go_loopw [12, 7] (fun i v wr => ∃ k : Nat, k ≤ m ∧ i = .int .i64 k ∧ ∃ av nv cv, v = .slice av nv cv ∧ ∃ es r a' n' c', Hid (itO cutP k l = some (es, r)) ∧ Hid (nv = es.length) ∧ Hid (OwO wr w.heap.size (.slice av nv cv) es) ∧ Hid (Bx wr pb 28 #[.slice a' n' c']) ∧ Hid (n' = r.length) ∧ Hid (RdY w wr (.slice a' n' c') r) ∧ Hid (r.length ≤ 1000000) ∧ Hid (Below w.heap.size w wr)) (fun i _ _ => m - (intOf i).toNat)
  case atStart => exact ⟨0, Nat.zero_le _, rfl, none, 0, 0, rfl, [], l, a, n, c, hide rfl, hide rfl, hide (OwG.nil _ _), HP0, HN, hide (.inl HR.out), HL, HB0⟩
  case round =>
    obtain ⟨k, hk, rfl, av, nv, cv, rfl, es, r, a', n', c', hit, hnv, hown, hbx, hn', hy, hrl, hbel⟩ := hrel
    clear HP0 HB0
    by_cases hlt : k < m
    · have hlt' : (k : Int) < m := by omega
      go_wp2_with fail
      refine (next_bt w pb a' n' c' r wr hbx.out hn'.out hy.out hbel.out HPW.out hrl.out).mono ?_
      rintro e w1 ⟨hnx, hk1, hb1⟩
      rcases hnx with ⟨o, r2, a2, n2, c2, hc2, rfl, hbx2, hn2, hy2⟩ | ⟨hc2, o, rfl⟩
      · have HO1 := hide (hown.out.keep hk1 (by decide))
        have HBX1 := hide hbx2
        have HN1 := hide hn2
        have HY1 := hide hy2
        have HB1 := hide hb1
        have HC1 := hide hc2
        clear hk1 hbx2 hn2 hy2 hb1 hc2 hown hbx hn' hy hbel
        have HEL := hide (show es.length ≤ 1000000 by have := itO_len hit.out; omega)
        cases hok : opOk o with
        | false =>
          have HBad := hide (show itO cutP m l = none from itO_bad hit.out (cutP_bad HC1.out hok) hlt)
          clear hok
          obtain ⟨w2, hw2⟩ : ∃ w2, w2 = w1.alloc (.cells #[.string (bs o.1), .bool o.2.1, .string (bs o.2.2)] 34) := ⟨_, rfl⟩
          have hb2 : Below w1.heap.size w1 w2 := by rw [hw2]; exact (Below.refl _ _).alloc (Nat.le_refl _) _
          have HB2 := hide (show Below w.heap.size w w2 from HB1.out.trans (hb2.mono HB1.out.size))
          go_wp2
          rw [← hw2]
          go_ret2
          exact ⟨_, _, _, _, rfl, .inr ⟨HBad.out, rfl⟩, HB2.out⟩
        | true =>
          have HNx := hide (itO_next hit.out (cutP_some HC1.out hok))
          clear hok
          obtain ⟨w2, hw2⟩ : ∃ w2, w2 = w1.alloc (.cells #[.string (bs o.1), .bool o.2.1, .string (bs o.2.2)] 34) := ⟨_, rfl⟩
          have hb2 : Below w1.heap.size w1 w2 := by rw [hw2]; exact (Below.refl _ _).alloc (Nat.le_refl _) _
          obtain ⟨k0, k1, k2⟩ := OpAt.cells (show OpAt w2 w1.heap.size o by rw [hw2]; exact OpAt.new w1 o)
          have HB2 := hide (show Below w.heap.size w w2 from HB1.out.trans (hb2.mono HB1.out.size))
          obtain ⟨g9, c9, w9, hrun, ho9, hb9, hk9⟩ := app_op (HO1.out.carry hb2) HB2.out.size HEL.out o
          have HB9 := hide (show Below w.heap.size w w9 from HB2.out.trans hb9)
          have HBX9 := hide (Bx.keep (HBX1.out.carry hb2) hk9 (by decide))
          have HY9 := hide ((HY1.out.carry hb2).keep hk9 (by decide))
          obtain ⟨n9, hn9⟩ : ∃ n9, n9 = es.length + 1 := ⟨_, rfl⟩
          rw [← hn9] at hrun ho9
          have HO9 := hide ho9
          have HN9 := hide (show n9 = (es ++ [o]).length by rw [hn9]; simp)
          have HRL9 := hide (show r2.length ≤ 1000000 from Nat.le_trans (cutO_len HC1.out) hrl.out)
          clear ho9 hb9 hk9 hn9 hb2 HB1 HO1 HBX1 HY1
          rw [hw2] at hrun k0 k1 k2
          rw [show (w1.alloc (.cells #[.string (bs o.1), .bool o.2.1, .string (bs o.2.2)] 34)).heap.size = w1.heap.size + 1 by simp] at hrun
          go_wp2_with (at_builtin; refine wpList_runappY rfl (.tmp 21) (.tmp 23) 26 rfl rfl rfl rfl hrun ?_)
          clear hrun k0 k1 k2 hw2
          go_roundw
          case rel => exact ⟨k + 1, by omega, by go_num, _, _, _, rfl, es ++ [o], r2, a2, n2, c2, HNx, HN9, HO9, HBX9, HN1, HY9, HRL9, HB9⟩
          case measure => simp only [intOf]; omega
      · have HBad := hide (show itO cutP m l = none from itO_bad hit.out (cutP_none hc2) hlt)
        have HB1 := hide hb1
        clear hc2 hb1 hk1
        obtain ⟨w2, hw2⟩ : ∃ w2, w2 = w1.alloc (.cells #[.string (bs o.1), .bool o.2.1, .string (bs o.2.2)] 34) := ⟨_, rfl⟩
        have hb2 : Below w1.heap.size w1 w2 := by rw [hw2]; exact (Below.refl _ _).alloc (Nat.le_refl _) _
        have HB2 := hide (show Below w.heap.size w w2 from HB1.out.trans (hb2.mono HB1.out.size))
        go_wp2
        rw [← hw2]
        go_ret2
        exact ⟨_, _, _, _, rfl, .inr ⟨HBad.out, rfl⟩, HB2.out⟩
    · have hd : decide ((k : Int) < m) = false := by simpa using (by omega : ¬ (k : Int) < m)
      have HE := hide (show itO cutP m l = some (es, r) by have := hit.out; rwa [show k = m by omega] at this)
      have x0 : wr.cell? ⟨pb, 0, none⟩ = some (.slice a' n' c') := hbx.out.at 0 rfl
      have HD := hide (show ((n' : Int) == 0) = decide (r = []) by
        rw [hn'.out]
        cases r with
        | nil => rfl
        | cons x r => simp; omega)
      go_wp2
      go_quiet (fail)
      go_wp2
      go_ret2
      exact ⟨av, nv, cv, decide (r = []), by rw [← HD.out]; rfl, .inl ⟨es, r, HE.out, rfl, hown.out⟩, belowX_drewN hbel.out _⟩

def OpnP (w w' : World) (l : List UInt8) (e : Ending) : Prop :=
  (∃ s es av nv cv, readO l = some (s, es) ∧ e = .returned (.tuple #[.int .i64 (s : Nat), .slice av nv cv, .bool true]) ∧ OwO w' w.heap.size (.slice av nv cv) es) ∨
  (readO l = none ∧ ∃ s av nv cv, e = .returned (.tuple #[.int .i64 s, .slice av nv cv, .bool false]))
theorem readO_n1 {l : List UInt8} (h : cutM 1099511627712 l = none) : readO l = none := by simp [readO, readP, h]
theorem readO_n2 {l q : List UInt8} {s : Nat} (h : cutM 1099511627712 l = some (s, q)) (h2 : cutM 64 q = none) : readO l = none := by simp [readO, readP, h, h2]
theorem readO_n3 {l q z : List UInt8} {s m : Nat} (h : cutM 1099511627712 l = some (s, q)) (h2 : cutM 64 q = some (m, z)) (h3 : itO cutP m z = none) : readO l = none := by simp [readO, readP, h, h2, h3]
theorem readO_s {l q z r : List UInt8} {s m : Nat} {es : List Opn} (h : cutM 1099511627712 l = some (s, q)) (h2 : cutM 64 q = some (m, z)) (h3 : itO cutP m z = some (es, r)) : readO l = if r = [] then some (s, es) else none := by simp [readO, readP, h, h2, h3]
theorem cutM_len {most n : Nat} {l r : List UInt8} (h : cutM most l = some (n, r)) : r.length ≤ l.length := by
  have := congrArg List.length (cutM_can h).1
  rw [List.length_append] at this
  omega

set_option maxHeartbeats 1000000 in
set_option maxRecDepth 100000 in
theorem opened_bt (a : Option Addr) (n c : Nat) (l : List UInt8) (w : World) (hrd : Rd w (.slice a n c) l) (hl : l.length ≤ 1000000) :
    Calls Try.prog 23 #[.slice a n c] w fun e w' => OpnP w w' l e ∧ Below w.heap.size w w' := by
  have HR := hide hrd
  have HL := hide hl
  clear hrd hl
  cases h1 : cutM 1099511627712 l with
  | none =>
    have hc := cutNumber_none 1099511627712 a n c l w HR.out h1
    have HE := hide (readO_n1 h1)
    clear h1
    go_enter Try.func23, Try.ntmps23
    go_wp2_with fail
    refine hc.mono ?_
    rintro e w1 ⟨rfl, b1⟩
    clear hc
    go_wp2
    go_ret3
    exact ⟨.inr ⟨HE.out, _, _, _, _, rfl⟩, b1⟩
  | some p =>
    obtain ⟨s, q⟩ := p
    have hc := cutNumber_some 1099511627712 a n c l q s w (by decide) HR.out h1
    have HQL := hide (Nat.le_trans (cutM_len h1) HL.out)
    have H1 := hide h1
    clear h1
    go_enter Try.func23, Try.ntmps23
    go_wp2_with fail
    refine hc.mono ?_
    rintro e w1 ⟨a2, c2, rfl, hs2, b1⟩
    clear hc
    have HR2 := hide (hs2 w1 (HR.out.carry b1))
    have HB1 := hide b1
    clear hs2 b1
    obtain ⟨n2, hn2⟩ : ∃ n2, n2 = q.length := ⟨_, rfl⟩
    rw [← hn2] at HR2 ⊢
    clear hn2
    cases h2 : cutM 64 q with
    | none =>
      have hc := cutNumber_none 64 a2 n2 c2 q w1 HR2.out h2
      have HE := hide (readO_n2 H1.out h2)
      clear h2
      go_wp2_with fail
      refine hc.mono ?_
      rintro e w2 ⟨rfl, b2⟩
      have HB2 := hide (show Below w.heap.size w w2 from HB1.out.trans (b2.mono HB1.out.size))
      clear hc b2
      go_wp2
      go_ret3
      exact ⟨.inr ⟨HE.out, _, _, _, _, rfl⟩, HB2.out⟩
    | some p =>
      obtain ⟨m, z⟩ := p
      have hc := cutNumber_some 64 a2 n2 c2 q z m w1 (by decide) HR2.out h2
      have HZL := hide (Nat.le_trans (cutM_len h2) HQL.out)
      have HM := hide (cutM_can h2).2.2
      have H2 := hide h2
      clear h2
      go_wp2_with fail
      refine hc.mono ?_
      rintro e w2 ⟨a3, c3, rfl, hs3, b2⟩
      have HB2 := hide (show Below w.heap.size w w2 from HB1.out.trans (b2.mono HB1.out.size))
      have HR3 := hide (hs3 w2 (HR2.out.carry b2))
      clear hc b2 hs3
      obtain ⟨n3, hn3⟩ : ∃ n3, n3 = z.length := ⟨_, rfl⟩
      rw [← hn3] at HR3 ⊢
      clear hn3
      go_wp2_with fail
      refine (operations_bt a3 n3 c3 z m w2 HR3.out HM.out HZL.out).mono ?_
      rintro e w3 ⟨av, nv, cv, b, rfl, hP, b3⟩
      have HB3 := hide (show Below w.heap.size w w3 from HB2.out.trans (b3.mono HB2.out.size))
      have HP := hide hP
      clear hP b3
      go_wp2
      go_ret3
      refine ⟨?_, HB3.out⟩
      rcases HP.out with ⟨es, r, h3, hb, ho⟩ | ⟨h3, hb⟩
      · have hr := readO_s H1.out H2.out h3
        by_cases hr0 : r = []
        · rw [if_pos hr0] at hr
          rw [decide_eq_true hr0] at hb
          exact .inl ⟨s, es, av, nv, cv, hr, by rw [hb]; rfl, ho.mono HB2.out.size⟩
        · rw [if_neg hr0] at hr
          rw [decide_eq_false hr0] at hb
          exact .inr ⟨hr, s, av, nv, cv, by rw [hb]; rfl⟩
      · exact .inr ⟨readO_n3 H1.out H2.out h3, s, av, nv, cv, by rw [hb]; rfl⟩

set_option maxHeartbeats 1000000 in
set_option maxRecDepth 100000 in
theorem read_bt (a : Option Addr) (n c : Nat) (l : List UInt8) (w : World) (hrd : Rd w (.slice a n c) l) :
    Calls Try.prog 11 #[.slice a n c] w fun e w' => ∃ av nv cv, e = .returned (.tuple #[.int .i64 (rdBS l), .slice av nv cv, .int .i64 (rdBE l)]) ∧ OwO w' w.heap.size (.slice av nv cv) (rdBL l) ∧ Below w.heap.size w w' := by
  have HN := hide (show n = l.length by obtain ⟨_, _, e⟩ := rd_formX hrd; cases e; rfl)
  by_cases hg : 16384 < n
  · have hg' : (16384 : Int) < n := by omega
    obtain ⟨e1, e2, e3⟩ := rdB_long (l := l) (by have := HN.out; omega)
    rw [e1, e2, e3]
    clear e1 e2 e3 hrd
    go_enter Try.func11, Try.ntmps11
    go_wp2
    go_ret3
    exact ⟨_, _, _, rfl, OwG.nil _ _, Below.refl _ _⟩
  · have hg' : decide ((16384 : Int) < n) = false := by simpa using (by omega : ¬ (16384 : Int) < n)
    have hc := opened_bt a n c l w hrd (by have := HN.out; omega)
    have HG := hide (show ¬ 16384 < l.length by have := HN.out; omega)
    clear hrd
    go_enter Try.func11, Try.ntmps11
    go_wp2_with fail
    refine hc.mono ?_
    rintro e w1 ⟨hP, b1⟩
    clear hc
    rcases hP with ⟨s, es, av, nv, cv, hr, rfl, ho⟩ | ⟨hr, s, av, nv, cv, rfl⟩
    · obtain ⟨e1, e2, e3⟩ := rdB_some HG.out hr
      have HO := hide ho
      have HE := hide (And.intro e1 (And.intro e2 e3))
      clear e1 e2 e3 hr ho
      go_wp2
      go_ret3
      exact ⟨av, nv, cv, by rw [HE.out.1, HE.out.2.1]; rfl, by rw [HE.out.2.2]; exact HO.out, b1⟩
    · obtain ⟨e1, e2, e3⟩ := rdB_none HG.out hr
      have HE := hide (And.intro e1 (And.intro e2 e3))
      clear e1 e2 e3 hr
      go_wp2
      go_ret3
      exact ⟨none, 0, 0, by rw [HE.out.1, HE.out.2.1]; rfl, by rw [HE.out.2.2]; exact OwG.nil _ _, b1⟩

end Go.Proofs.Ytihbidkonoikkaa
