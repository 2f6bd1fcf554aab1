/-
  What checked, New, deep and Add do.
-/
import Derived.Test.YthhlckdglifmeaaVn6
import Derived.Test.YthhlckdglifmeaaRowH
namespace Go.Proofs.Ythhlckdglifmeaa
open Go.RowKit
set_option linter.unusedVariables false
set_option linter.unusedSimpArgs false

def CkdV (v : Value) (nx sq : Int) (lg : List UInt8) (k : Int) (v' : Value) (nx' sq' : Int) (lg' : List UInt8) : Prop :=
  (k = 0 ∧ v' = v ∧ nx' = nx ∧ sq' = sq ∧ lg' = lg) ∨ (k ≠ 0 ∧ v' = .slice none 0 0 ∧ nx' = 0 ∧ sq' = 0 ∧ lg' = [])
set_option maxHeartbeats 4000000 in
set_option maxRecDepth 100000 in
theorem checked_vn (a : Option Addr) (n c : Nat) (R : Lvs) (nx sq : Int) (lg : List UInt8) (w : World) (hrd : RdVw w (.slice a n c) R) (hn : n ≤ 1000) (hT : (lvs R).flatten.length ≤ 100000) :
    Calls Try.prog 39 #[.agg #[.slice a n c, .int .i64 nx, .int .i64 sq, .string (bs lg)]] w fun e w' => ∃ av nv cv nx' sq' lg', e = .returned (.tuple #[.agg #[.slice av nv cv, .int .i64 nx', .int .i64 sq', .string (bs lg')], .int .i64 (chkV (lvs R, nx, sq, lg))]) ∧ CkdV (.slice a n c) nx sq lg (chkV (lvs R, nx, sq, lg)) (.slice av nv cv) nx' sq' lg' ∧ Below w.heap.size w w' := by
  have HR := hide hrd
  obtain ⟨w1, hw1⟩ : ∃ w1, w1 = w.alloc (.cells #[.slice a n c, .int .i64 nx, .int .i64 sq, .string (bs lg)] 24) := ⟨_, rfl⟩
  have hb1 : Below w.heap.size w w1 := by rw [hw1]; exact (Below.refl _ _).alloc (Nat.le_refl _) _
  obtain ⟨w2, hw2⟩ : ∃ w2, w2 = w1.alloc (.cells #[.slice none 0 0, .int .i64 0, .int .i64 0, .string { data := #[] }] 24) := ⟨_, rfl⟩
  have hb2 : Below w1.heap.size w1 w2 := by rw [hw2]; exact (Below.refl _ _).alloc (Nat.le_refl _) _
  have hs1 : w1.heap.size = w.heap.size + 1 := by rw [hw1]; simp
  have HV1 : VvAt w1 w.heap.size (.slice a n c) nx sq lg := by rw [hw1]; exact VvAt.new w _ nx sq lg
  have HV2 := hide (HV1.carry hb2)
  have HZ2 := hide (show VvAt w2 (w.heap.size + 1) (.slice none 0 0) 0 0 [] by rw [hw2, ← hs1]; exact VvAt.new w1 _ 0 0 [])
  have HB2 := hide (hb1.trans (hb2.mono hb1.size))
  have hc := check_vn a n c R nx sq lg w2 (HR.out.carry HB2.out) hn hT
  obtain ⟨K, hK⟩ : ∃ K, K = chkV (lvs R, nx, sq, lg) := ⟨_, rfl⟩
  rw [← hK] at hc ⊢
  clear hK hb1 hb2 hs1 hrd HV1
  obtain ⟨v0, v1, v2, v3⟩ := HV2.out.cells
  rw [hw2] at v0 v1 v2 v3
  go_enter Try.func39, Try.ntmps39
  go_wp2_with fail
  rw [← hw1]
  clear hw1
  go_wp2_with fail
  rw [← hw2]
  clear hw2
  clear v0 v1 v2 v3
  refine hc.mono ?_
  rintro e w3 ⟨rfl, b3⟩
  have HV3 := hide (HV2.out.carry b3)
  have HZ3 := hide (HZ2.out.carry b3)
  have HB3 := hide (HB2.out.trans (b3.mono HB2.out.size))
  clear hc b3 HV2 HZ2 HB2
  by_cases hk : K = 0
  · subst hk
    obtain ⟨v0, v1, v2, v3⟩ := HV3.out.cells
    have hne : w.heap.size ≠ w.heap.size + 1 := by omega
    obtain ⟨w9, hw9, HB9, HK9, r0, r1, r2, r3, f0, f1, f2, f3, z0, z1, z2, z3⟩ := finV HZ3 HB3 (show w.heap.size ≤ (w.heap.size + 1) by omega) (.slice a n c) nx sq lg
    go_wp2
    try rw [hw9]
    clear v0 v1 v2 v3 r0 r1 r2 r3 f0 f1 f2 f3 hw9 HK9
    refine bodyPost_ret (v := .tuple #[.agg #[.slice a n c, .int .i64 nx, .int .i64 sq, .string (bs lg)], .int .i64 0]) ?_ rfl ⟨_, _, _, _, _, _, rfl, .inl ⟨rfl, rfl, rfl, rfl, rfl⟩, HB9.out⟩
    simp [results, Try.results39, go_sem, *]
  · have hk' : (K != 0) = true := by simpa using hk
    have HKN := hide hk
    clear hk
    obtain ⟨w9, hw9, HB9, HK9, r0, r1, r2, r3, f0, f1, f2, f3, z0, z1, z2, z3⟩ := finV0 HZ3 HB3 (show w.heap.size ≤ (w.heap.size + 1) by omega)
    go_wp2
    try rw [hw9]
    clear r0 r1 r2 r3 f0 f1 f2 f3 hw9 HK9
    refine bodyPost_ret (v := .tuple #[.agg #[.slice none 0 0, .int .i64 0, .int .i64 0, .string { data := #[] }], .int .i64 K]) ?_ rfl ⟨_, _, _, _, _, _, rfl, .inr ⟨HKN.out, rfl, rfl, rfl, rfl⟩, HB9.out⟩
    simp [results, Try.results39, go_sem, *]

def ApW (R : Lvs) : Prop := R.Pairwise fun p q => ∀ g, p.1.ownBlock = some g → q.1.ownBlock ≠ some g
def zVw : Value × List Mta := (.slice none 0 0, [])
theorem make_w (w : World) (N : Nat) (hN : N ≤ 1000) : ∃ w2, (Instr.makeSlice 22 (.int .i64 N) (.int .i64 N)).run Try.prog w = .ok (.slice (some ⟨w.heap.size, 0, none⟩) N N) w2 ∧ OwG 1 ecW 26 w2 w.heap.size (.slice (some ⟨w.heap.size, 0, none⟩) N N) (List.replicate N zVw) ∧ Below w.heap.size w w2 :=
  makeG ecW_len (by decide) Try.underlying22 Try.infoW (x := zVw) rfl w N (by omega) (by unfold maxLen; omega)
theorem app_metas {w : World} {base : Nat} {v : Value} {l : List Mta} (h : OwM w base v l) (hb : base ≤ w.heap.size) {a : Option Addr} {n c : Nat} {m : List Mta} (hm : RdM w (.slice a n c) m) (hl : l.length + m.length ≤ 1000000) :
    ∃ b n' c' w', Hid (n' = (l ++ m).length) ∧ (Builtin.append_ #[26, 26] 26 #[v, .slice a n c]).run Try.prog w = .ok (.slice b n' c') w' ∧ OwM w' base (.slice b n' c') (l ++ m) ∧ Below base w w' := by
  obtain ⟨b, c', w', h1, h2, h3, _⟩ := app_allG ecM_len (by decide) ecM_one Try.underlying26 Try.infoMt rfl h hb hm (by omega) (by unfold maxLen; omega)
  exact ⟨b, _, c', w', hide rfl, h1, h2, h3⟩
theorem flatW (R : Lvs) : R.flatMap ecW = R.map (·.1) := by
  induction R with
  | nil => rfl
  | cons x R ih => rw [List.flatMap_cons, ih]; rfl
theorem OwG.setW1 {w : World} {base g n c : Nat} {R : Lvs} (h : OwG 1 ecW 26 w base (.slice (some ⟨g, 0, none⟩) n c) R) (k : Nat) (p : Value × List Mta) (hb : base ≤ w.heap.size) :
    OwG 1 ecW 26 (w.setCell ⟨g, k, none⟩ p.1) base (.slice (some ⟨g, 0, none⟩) n c) (R.set k p) ∧ Below base w (w.setCell ⟨g, k, none⟩ p.1) ∧ KeepG 26 w (w.setCell ⟨g, k, none⟩ p.1) := by
  have hn : n = R.length := by obtain ⟨_, _, e⟩ := h.form; cases e; rfl
  subst hn
  obtain ⟨s1, s2⟩ := World.ownsRow.stored h k p.1
  have hgb : base ≤ g := (World.ownsRow.lt h g rfl).1
  refine ⟨?_, (Below.refl _ _).grown s2 hb fun j hj => by cases hj; exact hgb, keepG_of h s2⟩
  unfold OwG
  have e : (R.flatMap ecW).set k p.1 = (R.set k p).flatMap ecW := by rw [flatW, flatW, List.map_set]
  rw [List.length_set, ← e]
  exact s1
theorem OwG.ltV {α : Type} {sz : Nat} {ec : α → List Value} {t : TypeId} {w : World} {base : Nat} {v : Value} {l : List α} (h : OwG sz ec t w base v l) {g : Nat} (hg : v.ownBlock = some g) : base ≤ g ∧ g < w.heap.size := World.ownsRow.lt h g hg
theorem OwG.fzV {α : Type} {sz : Nat} {ec : α → List Value} {t : TypeId} {w : World} {base g n c : Nat} {l : List α} (h : OwG sz ec t w base (.slice (some ⟨g, 0, none⟩) n c) l) (j : Nat) : w.frozen? ⟨g, j, none⟩ = false := by
  rcases h.2 with ⟨e, _⟩ | ⟨g', cap, cur, e, hb, hg, _⟩
  · cases e
  · cases e
    exact frozen_of_row w g j _ _ hg
theorem rep_set (S : Lvs) (n : Nat) (hS : S.length < n) (p : Value × List Mta) : (S ++ List.replicate (n - S.length) zVw).set S.length p = (S ++ [p]) ++ List.replicate (n - (S.length + 1)) zVw := by
  obtain ⟨m, hm⟩ : ∃ m, n - S.length = m + 1 := ⟨n - S.length - 1, by omega⟩
  rw [hm, show n - (S.length + 1) = m by omega, List.replicate_succ, List.set_append_right _ _ (Nat.le_refl _), Nat.sub_self, List.set_cons_zero, List.append_assoc]
  rfl

set_option maxHeartbeats 4000000 in
set_option maxRecDepth 100000 in
theorem deep_vn (a : Option Addr) (n c : Nat) (R : Lvs) (w : World) (hrd : RdVw w (.slice a n c) R) (hn : n ≤ 1000) (hT : (lvs R).flatten.length ≤ 100000) :
    Calls Try.prog 36 #[.slice a n c] w fun e w' => ∃ g S, e = .returned (.slice (some ⟨g, 0, none⟩) n n) ∧ OwVw w' w.heap.size (.slice (some ⟨g, 0, none⟩) n n) S ∧ lvs S = lvs R ∧ ApW S ∧ Below w.heap.size w w' := by
  have HN := hide hrd.len
  have HR := hide hrd
  clear hrd
  obtain ⟨w2, hmk, o2, b2⟩ := make_w w n hn
  obtain ⟨g, hg⟩ : ∃ g, g = w.heap.size := ⟨_, rfl⟩
  rw [← hg] at hmk
  rw [show (Value.slice (some ⟨w.heap.size, 0, none⟩) n n) = .slice (some ⟨g, 0, none⟩) n n by rw [hg]] at o2
  have HO2 := hide (show OwG 1 ecW 26 w2 w.heap.size (.slice (some ⟨g, 0, none⟩) n n) ([] ++ List.replicate (n - 0) zVw) from o2)
  have HB2 := hide b2
  clear o2 b2 hg
  go_enter Try.func36, Try.ntmps36
  go_wp2_with (refine wpList_mkY rfl (.tmp 7) (.tmp 7) 22 rfl rfl rfl hmk ?_)
  clear hmk
  go_loopw [11] (fun i wr => ∃ (k : Nat) (S : Lvs), k ≤ n ∧ i = .int .i64 k ∧ Hid (S.length = k ∧ lvs S = (lvs R).take k ∧ ApW S) ∧ Hid (OwG 1 ecW 26 wr w.heap.size (.slice (some ⟨g, 0, none⟩) n n) (S ++ List.replicate (n - k) zVw)) ∧ Hid (∀ p ∈ S, OwM wr w.heap.size p.1 p.2) ∧ Hid (Below w.heap.size w wr)) (fun i _ => n - (intOf i).toNat)
  case atStart => exact ⟨0, [], Nat.zero_le _, rfl, hide ⟨rfl, by simp, List.Pairwise.nil⟩, HO2, hide (fun p hp => by cases hp), HB2⟩
  case round =>
    obtain ⟨k, S, hk, rfl, hS, hO, hM, hB⟩ := hrel
    clear HO2 HB2
    by_cases hlt : k < n
    · have hlt' : (k : Int) < n := by omega
      have hkl : k < R.length := by have := HN.out; omega
      obtain ⟨b, off, ax, nx', cx, rfl, q0, hRx, hnx⟩ := HR.out.cells hB.out k hkl
      have hx5 : (R[k]).2.length ≤ 100000 := by have := cntW_one hkl; omega
      have HTK := hide (show (lvs R).take (k + 1) = (lvs R).take k ++ [(R[k]).2] by rw [List.take_succ_eq_append_getElem (by rw [lvs_len]; exact hkl), lvs_get hkl])
      obtain ⟨X, hX⟩ : ∃ X, X = (R[k]).2 := ⟨_, rfl⟩
      rw [← hX] at hRx hnx HTK hx5
      clear hX
      obtain ⟨ao, no, co, w5, hno, hr5, o5, b5⟩ := app_metas (OwG.nil wr wr.heap.size) (Nat.le_refl _) (hRx.carry hB.out) (by simp only [List.length_nil]; omega)
      rw [List.nil_append] at hno o5
      have oO5 := OwG.carry hO.out b5
      have hbb5 : w.heap.size ≤ w5.heap.size := Nat.le_trans hB.out.size b5.size
      obtain ⟨s1, s2, s3⟩ := oO5.setW1 k (.slice ao no co, X) hbb5
      have hfz := oO5.fzV k
      rw [show (S ++ List.replicate (n - k) zVw) = S ++ List.replicate (n - S.length) zVw by rw [hS.out.1]] at s1
      have hSk := hS.out.1
      have e9 := rep_set S n (by omega) (.slice ao no co, X)
      rw [hSk] at e9 s1
      rw [e9] at s1
      clear e9
      have hq : ∃ u, w5.cell? ⟨g, k, none⟩ = some u := by
        rcases oO5.2 with ⟨e, _⟩ | ⟨g', cap, cur, e, hbg, hg, h1, h2, h3, h4⟩
        · cases e
        · injection e with e1 e2 e3
          injection e1 with e1
          injection e1 with e1
          subst e1
          refine ⟨cur[k]'(by rw [h3, ← e3]; omega), ?_⟩
          rw [cell_of_row w5 g k _ _ (0, 0) hg]
          exact Array.getElem?_eq_getElem _
      obtain ⟨u, hu⟩ := hq
      obtain ⟨w9, hw9⟩ : ∃ w9, w9 = w5.setCell ⟨g, k, none⟩ (.slice ao no co) := ⟨_, rfl⟩
      rw [← hw9] at s1 s2 s3
      have HO9 := hide s1
      have HB9 := hide (show Below w.heap.size w w9 from (hB.out.trans (b5.mono hB.out.size)).trans s2)
      have HM9 := hide (show ∀ p ∈ S ++ [(Value.slice ao no co, X)], OwM w9 w.heap.size p.1 p.2 from fun p hp => by
        rcases List.mem_append.1 hp with hp | hp
        · exact OwG.keep (OwG.carry (hM.out p hp) b5) s3 (by decide)
        · obtain rfl := List.mem_singleton.1 hp
          exact OwG.keep (o5.mono hB.out.size) s3 (by decide))
      have HS9 := hide (show (S ++ [(Value.slice ao no co, X)]).length = k + 1 ∧ lvs (S ++ [(Value.slice ao no co, X)]) = (lvs R).take (k + 1) ∧ ApW (S ++ [(Value.slice ao no co, X)]) from by
        refine ⟨by simp [hSk], by rw [HTK.out, ← hS.out.2.1]; simp [lvs], List.pairwise_append.2 ⟨hS.out.2.2, List.pairwise_singleton _ _, fun p hp q hq gg h1 h2 => ?_⟩⟩
        obtain rfl := List.mem_singleton.1 hq
        have l1 := OwG.ltV (hM.out p hp) h1
        have l2 := OwG.ltV o5 h2
        omega)
      clear s1 s2 s3 o5 b5 oO5 hno hS hO hM hB HTK hRx hnx hSk
      go_wp2_with (first | (at_builtin; refine wpList_runappY rfl (.const (.slice none 0 0)) (.tmp 18) 26 rfl rfl rfl rfl hr5 ?_) | fail)
      rw [← hw9]
      clear hw9
      go_roundw
      case rel => exact ⟨k + 1, _, by omega, by go_num, HS9, HO9, HM9, HB9⟩
      case measure => simp only [intOf]; omega
    · have hd : decide ((k : Int) < n) = false := by simpa using (by omega : ¬ (k : Int) < n)
      obtain rfl : k = n := by omega
      have HE := hide (show lvs S = lvs R by rw [hS.out.2.1, List.take_of_length_le (by rw [lvs_len]; have := HN.out; omega)])
      have HO := hide (show OwVw wr w.heap.size (.slice (some ⟨g, 0, none⟩) k k) S from ⟨by have := hO.out; rwa [Nat.sub_self, List.replicate_zero, List.append_nil] at this, hM.out⟩)
      have HA := hide hS.out.2.2
      clear hS hO hM
      go_wp2
      go_ret
      exact ⟨_, S, rfl, HO.out, HE.out, HA.out, hB.out⟩
end Go.Proofs.Ythhlckdglifmeaa
