/-
  What block.opened and Read do.
-/
import Derived.Test.YtjkoemdojdcmpaaBk6
namespace Go.Proofs.Ytjkoemdojdcmpaa
open Go.RowKit
set_option linter.unusedVariables false
set_option linter.unusedSimpArgs false

def OpkP (w w' : World) (l : List UInt8) (e : Ending) : Prop :=
  (∃ es av nv cv, readK l = some es ∧ e = .returned (.tuple #[.slice av nv cv, .bool true]) ∧ OwN w' w.heap.size (.slice av nv cv) es) ∨
  (readK l = none ∧ ∃ av nv cv, e = .returned (.tuple #[.slice av nv cv, .bool false]))
theorem readK_n1 {l : List UInt8} (h : cutW 1024 l = none) : readK l = none := by simp [readK, h]
theorem readK_n2 {l z : List UInt8} {m : Nat} (h : cutW 1024 l = some (m, z)) (h2 : m < 1) : readK l = none := by simp only [readK, h]; rw [if_pos h2]
theorem readK_n3 {l z : List UInt8} {m : Nat} (h : cutW 1024 l = some (m, z)) (h3 : itE z m = none) : readK l = none := by
  simp only [readK, h, h3]
  split <;> rfl
theorem readK_s {l z r : List UInt8} {m : Nat} {es : List Ent} (h : cutW 1024 l = some (m, z)) (h2 : ¬ m < 1) (h3 : itE z m = some (es, r)) : readK l = if r = [] then some es else none := by
  simp only [readK, h, h3]; rw [if_neg h2]
theorem itE_key {z r : List UInt8} {k : Nat} {es : List Ent} (h : itE z k = some (es, r)) : (es.getLastD zE).1.length ≤ 1000 := by
  obtain ⟨_, h2, _⟩ := itE_can h
  rcases List.eq_nil_or_concat es with rfl | ⟨es', x, rfl⟩
  · simp [zE]
  · rw [List.concat_eq_append, List.getLastD_concat]
    have := (entOk_sz (chS_ent h2 x (by simp))).2.1
    omega
theorem itE_len {z r : List UInt8} {k : Nat} {es : List Ent} (h : itE z k = some (es, r)) : r.length ≤ z.length := by
  obtain ⟨h1, _⟩ := itE_can h
  have := congrArg List.length h1
  rw [List.length_append] at this
  omega

set_option maxHeartbeats 2000000 in
set_option maxRecDepth 100000 in
theorem opened_bk (a : Option Addr) (n c : Nat) (l : List UInt8) (w : World) (hrd : Rd w (.slice a n c) l) (hl : l.length ≤ 1000000) :
    Calls Try.prog 85 #[.slice a n c] w fun e w' => OpkP w w' l e ∧ Below w.heap.size w w' := by
  have HR := hide hrd
  have HL := hide hl
  clear hrd hl
  cases h1 : cutW 1024 l with
  | none =>
    have hc := cutNum_none 1024 a n c l w HR.out h1
    have HE := hide (readK_n1 h1)
    clear h1
    go_enter Try.func85, Try.ntmps85
    go_wp2_with fail
    refine hc.mono ?_
    rintro e w1 ⟨rfl, b1⟩
    clear hc
    go_wp2
    go_ret2
    exact ⟨.inr ⟨HE.out, _, _, _, rfl⟩, b1⟩
  | some p =>
  obtain ⟨m, z⟩ := p
  have hc := cutNum_some 1024 a n c l z m w (by decide) HR.out h1
  have HZL := hide (Nat.le_trans (cutW_len h1) HL.out)
  have hm4 : m ≤ 1024 := (cutW_can h1).2
  have H1 := hide h1
  clear h1
  go_enter Try.func85, Try.ntmps85
  go_wp2_with fail
  refine hc.mono ?_
  rintro e w1 ⟨a2, c2, rfl, hs2, b1⟩
  clear hc
  have HR2 := hide (hs2 w HR.out)
  have HB1 := hide b1
  clear hs2 b1
  obtain ⟨n2, hn2⟩ : ∃ n2, n2 = z.length := ⟨_, rfl⟩
  rw [← hn2] at HR2 ⊢
  have HN2 := hide hn2
  clear hn2
  by_cases hm1 : m < 1
  · have hm1' : (m : Int) < 1 := by omega
    have HE := hide (readK_n2 H1.out hm1)
    go_wp2
    go_ret2
    exact ⟨.inr ⟨HE.out, _, _, _, rfl⟩, HB1.out⟩
  have hm1' : decide ((m : Int) < 1) = false := by simpa using (by omega : ¬ (m : Int) < 1)
  have HM1 := hide hm1
  obtain ⟨w2, hw2⟩ : ∃ w2, w2 = w1.alloc (.cells #[.string { data := #[] }, .int .i64 0, .bool false, .string { data := #[] }] 31) := ⟨_, rfl⟩
  have hb2 : Below w1.heap.size w1 w2 := by rw [hw2]; exact (Below.refl _ _).alloc (Nat.le_refl _) _
  have HA2 := hide (show EntAt w2 w1.heap.size zE by rw [hw2]; exact EntAt.new w1 zE)
  have HB2 := hide (show Below w.heap.size w w2 from HB1.out.trans (hb2.mono HB1.out.size))
  obtain ⟨P, hP⟩ : ∃ P, P = w1.heap.size := ⟨_, rfl⟩
  rw [← hP] at HA2
  have HP := hide (show w.heap.size ≤ P by rw [hP]; exact HB1.out.size)
  clear hb2 HB1
  go_wp2
  rw [← hw2]
  try rw [← hP]
  clear hw2 hP hm1 hm1'
  go_loopw [21, 6, 0] (fun i v b wr => ∃ k : Nat, k ≤ m ∧ i = .int .i64 k ∧ ∃ av nv cv, v = .slice av nv cv ∧ ∃ a' n' c', b = .slice a' n' c' ∧ ∃ es r, Hid (itE z k = some (es, r)) ∧ Hid (nv = es.length) ∧ Hid (OwN wr (P + 1) (.slice av nv cv) es) ∧ Hid (EntAt wr P (es.getLastD zE)) ∧ Hid (n' = r.length) ∧ Hid (Rd w (.slice a' n' c') r) ∧ Hid (Below w.heap.size w wr)) (fun i _ _ _ => m - (intOf i).toNat)
  case atStart => exact ⟨0, Nat.zero_le _, rfl, none, 0, 0, rfl, a2, n2, c2, rfl, [], z, hide rfl, hide rfl, hide (OwG.nil _ _), HA2, HN2, HR2, HB2⟩
  case round =>
    obtain ⟨k, hk, rfl, av, nv, cv, rfl, a', n', c', rfl, es, r, hit, hnv, hown, hat, hn', hy, hbel⟩ := hrel
    clear HA2 HB2
    by_cases hlt : k < m
    · have hlt' : (k : Int) < m := by omega
      have HKL := hide (itE_key hit.out)
      have HRL := hide (show r.length ≤ 1000000 from Nat.le_trans (itE_len hit.out) HZL.out)
      have HES := hide (show es.length ≤ 1000000 by have := (itE_can hit.out).2.2; omega)
      have HNX := hide (fun x r2 h => itE_next (x := x) (r2 := r2) hit.out h)
      have HBD := hide (fun h => itE_bad hit.out h hlt)
      obtain ⟨y, hyy⟩ : ∃ y : Ent, y = es.getLastD zE := ⟨_, rfl⟩
      rw [← hyy] at hat HKL HNX HBD
      clear hyy
      obtain ⟨y0, y1, y2, y3⟩ := hat.out.cells
      have hce := cutEntry_bk y a' n' c' r wr HKL.out HRL.out (hy.out.carry hbel.out)
      go_wp2_with fail
      clear y0 y1 y2 y3
      refine hce.mono ?_
      rintro e w3 ⟨hP, b3⟩
      have HA3 := hide (hat.out.carry b3)
      have HO3 := hide (hown.out.carry b3)
      have HB3 := hide (show Below w.heap.size w w3 from hbel.out.trans (b3.mono hbel.out.size))
      clear hce b3 hat hown hbel
      rcases hP with ⟨x, r2, a3, n3, c3, h3, rfl, hn3, hs3⟩ | ⟨h3, a3, n3, c3, rfl⟩
      · have HIT := hide (HNX.out x r2 h3)
        have HN3 := hide hn3
        have HR3 := hide (hs3 w hy.out)
        clear h3 hn3 hs3
        obtain ⟨y0, y1, y2, y3⟩ := HA3.out.cells
        have z0 := HA3.out.fz 0
        have z1 := HA3.out.fz 1
        have z2 := HA3.out.fz 2
        have z3 := HA3.out.fz 3
        obtain ⟨w4, hw4⟩ : ∃ w4, w4 = set4 w3 P (.string (bs x.1)) (.int .i64 x.2.1) (.bool x.2.2.1) (.string (bs x.2.2.2)) := ⟨_, rfl⟩
        have HA4 := hide (show EntAt w4 P x by rw [hw4]; exact HA3.out.put x)
        have HB4 := hide (show Below w.heap.size w w4 by rw [hw4]; exact below_set4 HB3.out HP.out _ _ _ _)
        have HO4 := hide (show OwN w4 (P + 1) (.slice av nv cv) es by rw [hw4]; exact OwG.set4 HO3.out (Nat.lt_succ_self _) _ _ _ _)
        obtain ⟨g9, c9, w9, hrun, ho9, hb9, hk9⟩ := app_ent HO4.out (Nat.succ_le_of_lt HA4.out.lt) HES.out x
        have HA9 := hide (show EntAt w9 P x from HA4.out.low hb9 (Nat.lt_succ_self _))
        have HB9 := hide (show Below w.heap.size w w9 from HB4.out.trans (hb9.mono (Nat.le_succ_of_le HP.out)))
        obtain ⟨n9, hn9⟩ : ∃ n9, n9 = es.length + 1 := ⟨_, rfl⟩
        rw [← hn9] at hrun ho9
        have HO9 := hide ho9
        have HN9 := hide (show n9 = (es ++ [x]).length by rw [hn9]; simp)
        obtain ⟨x0, x1, x2, x3⟩ := HA4.out.cells
        clear ho9 hb9 hk9 hn9 HA3 HO3 HB3
        rw [show w4.heap.size = w3.heap.size by rw [hw4]; exact set4_size _ _ _ _ _ _] at hrun
        unfold set4 at hw4
        rw [hw4] at hrun x0 x1 x2 x3
        clear hw4
        go_wp2_with (at_builtin; refine wpList_runappY rfl (.tmp 32) (.tmp 34) 32 rfl rfl rfl rfl hrun ?_)
        clear hrun x0 x1 x2 x3 y0 y1 y2 y3 z0 z1 z2 z3
        go_roundw
        case rel => exact ⟨k + 1, by omega, by go_num, _, _, _, rfl, a3, n3, c3, rfl, es ++ [x], r2, HIT, HN9, HO9, hide (by rw [List.getLastD_concat]; exact HA9.out), HN3, HR3, HB9⟩
        case measure => simp only [intOf]; omega
      · have HE := hide (readK_n3 H1.out (HBD.out h3))
        clear h3
        obtain ⟨y0, y1, y2, y3⟩ := HA3.out.cells
        have z0 := HA3.out.fz 0
        have z1 := HA3.out.fz 1
        have z2 := HA3.out.fz 2
        have z3 := HA3.out.fz 3
        have HB4 := hide (below_set4 HB3.out HP.out (.string (bs zE.1)) (.int .i64 zE.2.1) (.bool zE.2.2.1) (.string (bs zE.2.2.2)))
        unfold set4 at HB4
        go_wp2
        go_ret2
        exact ⟨.inr ⟨HE.out, _, _, _, rfl⟩, HB4.out⟩
    · have hd : decide ((k : Int) < m) = false := by simpa using (by omega : ¬ (k : Int) < m)
      have HE := hide (readK_s H1.out HM1.out (show itE z m = some (es, r) by have := hit.out; rwa [show k = m by omega] at this))
      have HO := hide (show OwN wr w.heap.size (.slice av nv cv) es from hown.out.mono (Nat.le_succ_of_le HP.out))
      have HD := hide (show ((n' : Int) == 0) = decide (r = []) by
        rw [hn'.out]
        cases r with
        | nil => rfl
        | cons x r => simp; omega)
      go_wp2
      go_ret2
      refine ⟨?_, hbel.out⟩
      by_cases hr : r = []
      · rw [if_pos hr] at HE
        exact .inl ⟨es, av, nv, cv, HE.out, by have := HD.out; rw [decide_eq_true hr] at this; simp_all, HO.out⟩
      · rw [if_neg hr] at HE
        exact .inr ⟨HE.out, av, nv, cv, by have := HD.out; rw [decide_eq_false hr] at this; simp_all⟩
end Go.Proofs.Ytjkoemdojdcmpaa
