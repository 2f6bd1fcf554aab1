/-
  What the statement FilesFind answers.
-/
import Derived.Test.YtlibnefibeikcaaGreatFiKit
import Derived.Test.YtlibnefibeikcaaGreatRmChk
import Derived.Test.YtlibnefibeikcaaGreatFiNames
import Derived.Test.YtlibnefibeikcaaGreatFiRef1
namespace Go.Proofs.YtlibnefibeikcaaGreat
open Go.RowKit
set_option linter.unusedVariables false
set_option linter.unusedSimpArgs false

/-! ### counting blocks -/
def cntB (p : Int → Bool) (a : Int) : Nat → Int
  | 0 => 0
  | k + 1 => cntB p a k + if p (a + k) then 1 else 0
theorem cntB_or {p q : Int → Bool} (a : Int) : ∀ k : Nat, (∀ i : Nat, i < k → p (a + i) = true → q (a + i) = false) → cntB (fun n => p n || q n) a k = cntB p a k + cntB q a k
  | 0, _ => by simp [cntB]
  | k + 1, h => by
    have ih := cntB_or (p := p) (q := q) a k fun i hi => h i (by omega)
    have hk := h k (by omega)
    simp only [cntB, ih]
    show (cntB p a k + cntB q a k + if (p (a + k) || q (a + k)) = true then (1 : Int) else 0) = _
    obtain ⟨x, hx⟩ : ∃ x, x = p (a + k) := ⟨_, rfl⟩
    obtain ⟨y, hy⟩ : ∃ y, y = q (a + k) := ⟨_, rfl⟩
    simp only [← hx, ← hy] at hk ⊢
    clear h ih hx hy
    cases x <;> cases y <;> simp at hk ⊢ <;> omega
theorem cntB_one (x : Ex) (a : Int) (ha : a ≤ x.1) (hx : 0 ≤ x.2) : ∀ k : Nat, cntB (inX x) a k = max 0 (min (k : Int) (x.1 + x.2 - a) - (x.1 - a))
  | 0 => by simp [cntB]; omega
  | k + 1 => by
    have ih := cntB_one x a ha hx k
    simp only [cntB, ih, inX]
    by_cases h1 : x.1 ≤ a + k
    · by_cases h2 : a + (k : Int) < x.1 + x.2
      · simp only [h1, h2, decide_true, Bool.and_self, if_true]; omega
      · simp only [h1, h2, decide_true, decide_false, Bool.and_false]; simp; omega
    · simp only [h1, decide_false, Bool.false_and]; simp; omega
theorem manyX_cnt {a : Int} {k : Nat} : ∀ l : List Ex, (∀ x ∈ l, a ≤ x.1 ∧ 1 ≤ x.2 ∧ x.1 + x.2 ≤ a + k) → apX l = true → manyX l = cntB (inL l) a k
  | l, h, hp => by
    rcases List.eq_nil_or_concat l with rfl | ⟨r, x, rfl⟩
    · have : ∀ k, cntB (inL []) a k = 0 := by
        intro k
        induction k with
        | zero => rfl
        | succ k ih => simp only [cntB, ih]; simp [inL]
      rw [this]; rfl
    · rw [List.concat_eq_append] at h hp ⊢
      rw [apX_snoc, Bool.and_eq_true] at hp
      have ih := manyX_cnt r (fun y hy => h y (by simp [hy])) hp.1
      have e : inL (r ++ [x]) = fun n => inL r n || inX x n := by funext n; exact inL_snoc r x n
      have hx := h x (by simp)
      rw [manyX_snoc, e, cntB_or, ← ih, cntB_one x a hx.1 (by omega)]
      · omega
      · intro i hi hl
        obtain ⟨y, hy, hyn⟩ := List.any_eq_true.1 hl
        have := List.all_eq_true.1 hp.2 y hy
        cases hq : inX x (a + i) with
        | false => rfl
        | true =>
          have hy1 := h y (by simp [hy])
          have hm := (meetX_in (a := x) (b := y) (by omega) (by omega)).2 ⟨_, hq, hyn⟩
          simp [hm] at this
termination_by l => l.length
decreasing_by subst_vars; simp [List.concat_eq_append]
/-! ### extents that may be -/
theorem extP_parts {l : List Ex} {b : Int} : extP l b ↔ (apX l = true ∧ allX l = 0 ∧ ∀ x ∈ l, 34 ≤ x.1 ∧ x.1 + x.2 ≤ b) := by
  unfold extP
  constructor
  · rintro ⟨h, k⟩
    obtain ⟨h1, h2⟩ := chkX_ok h
    exact ⟨h2, h1, k⟩
  · rintro ⟨h1, h2, h3⟩
    exact ⟨chkX_good h2 h1, h3⟩
theorem extP_all {l : List Ex} {b : Int} (h : extP l b) : ∀ x ∈ l, 34 ≤ x.1 ∧ 1 ≤ x.2 ∧ x.1 + x.2 ≤ b := by
  intro x hx
  obtain ⟨_, h2, h3⟩ := extP_parts.1 h
  have := (allX_ok h2).2 x hx
  have := h3 x hx
  omega
theorem extP_up {l : List Ex} {b c : Int} (h : extP l b) (hbc : b ≤ c) : extP l c := ⟨h.1, fun x hx => by have := h.2 x hx; omega⟩
theorem mayF_up {fs : List Fl} {b c : Int} (h : mayF fs b) (hbc : b ≤ c) : mayF fs c := ⟨h.1, h.2.1, extP_up h.2.2.1 hbc, h.2.2.2⟩
theorem chkF_ok {fs : List Fl} {b : Int} (h : chkF fs b = 0) : blkP b ∧ mayF fs b := by
  unfold chkF at h
  by_cases h1 : blkP b
  · rw [if_neg (by simpa using h1)] at h
    by_cases h2 : mayF fs b
    · exact ⟨h1, h2⟩
    · rw [if_neg h2] at h; omega
  · rw [if_pos h1] at h; omega
theorem chkF_mk {fs : List Fl} {b : Int} (h1 : blkP b) (h2 : mayF fs b) : chkF fs b = 0 := by
  unfold chkF; rw [if_neg (by simpa using h1), if_pos h2]
theorem blkP_top : blkP 4096 := ⟨by omega, by omega⟩
theorem chkF_top {fs : List Fl} {b : Int} (h : chkF fs b = 0) : chkF fs 4096 = 0 := by
  obtain ⟨h1, h2⟩ := chkF_ok h
  exact chkF_mk blkP_top (mayF_up h2 h1.2)

/-! ### FilesApart -/
/-! ### FilesFind -/
theorem isF_iff (fs : List Fl) (s : List UInt8) : isF fs s = true ↔ ∃ l, (s, l) ∈ fs := by
  unfold isF
  rw [List.any_eq_true]
  constructor
  · rintro ⟨f, hf, e⟩
    obtain ⟨f1, f2⟩ := f
    have e : f1 = s := by simpa using e
    subst e
    exact ⟨f2, hf⟩
  · rintro ⟨l, hl⟩
    exact ⟨_, hl, by simp⟩
theorem getF_mem {fs : List Fl} (hr : riseP fs) {s : List UInt8} {l : List Ex} (h : (s, l) ∈ fs) : getF fs s = l := by
  obtain ⟨t, ht, e⟩ := List.mem_iff_getElem.1 h
  rw [getF_at hr ht (by rw [e]), e]
theorem apX_pw (l : List Ex) : apX l = true ↔ l.Pairwise fun x y => meetX x y = false := by
  induction hn : l.length generalizing l with
  | zero =>
    obtain rfl := List.eq_nil_of_length_eq_zero hn
    simp [apX]
  | succ n ih =>
    rcases List.eq_nil_or_concat l with rfl | ⟨r, x, rfl⟩
    · simp at hn
    · rw [List.concat_eq_append] at hn ⊢
      rw [apX_snoc, List.pairwise_append, Bool.and_eq_true, ih r (by simpa using hn), List.all_eq_true]
      simp only [List.pairwise_cons, List.not_mem_nil, false_implies, implies_true, List.Pairwise.nil, and_self, true_and, List.mem_singleton, forall_eq]
      refine and_congr_right fun _ => forall_congr' fun y => forall_congr' fun _ => ?_
      rw [meetX_comm x y]
      cases meetX y x <;> simp
theorem extP_sub {l m : List Ex} {b : Int} (h : l.Sublist m) (hm : extP m b) : extP l b := by
  obtain ⟨h1, h2, h3⟩ := extP_parts.1 hm
  obtain ⟨k1, k2⟩ := allX_ok h2
  refine extP_parts.2 ⟨?_, allX_mk (Nat.le_trans h.length_le k1) fun x hx => k2 x (h.subset hx), fun x hx => h3 x (h.subset hx)⟩
  rw [apX_pw] at h1 ⊢
  exact h1.sublist h
theorem used_sub {fs gs : List Fl} (h : fs.Sublist gs) : (usedF fs).Sublist (usedF gs) := by
  unfold usedF
  induction h with
  | slnil => exact List.Sublist.refl _
  | cons a _ ih => rw [List.flatMap_cons]; exact ih.trans (List.sublist_append_right _ _)
  | cons_cons a _ ih => rw [List.flatMap_cons, List.flatMap_cons]; exact (List.Sublist.refl _).append ih
theorem thereE_in {fs : List Fl} {s : List UInt8} {b : Int} (h : chkF fs b = 0) (h1 : nameF s = true) (h2 : isF fs s = true) : thereE fs s = 0 ∧ findV fs s = (s, getF fs s) := by
  have e : thereE fs s = 0 := by
    unfold thereE
    rw [if_neg (by simpa using chkF_top h), if_neg (by simp [h1]), if_pos h2]
  exact ⟨e, by unfold findV; rw [if_pos e]⟩
theorem thereE_out {fs : List Fl} {s : List UInt8} {b : Int} (h : chkF fs b = 0) (h1 : nameF s = true) (h2 : isF fs s = false) : thereE fs s = 6 := by
  unfold thereE
  rw [if_neg (by simpa using chkF_top h), if_neg (by simp [h1]), if_neg (by simp [h2])]
theorem thereE_okF {fs : List Fl} {s : List UInt8} (h : thereE fs s = 0) : chkF fs 4096 = 0 ∧ nameF s = true ∧ isF fs s = true := by
  unfold thereE at h
  by_cases h1 : chkF fs 4096 = 0
  · rw [if_neg (by simpa using h1)] at h
    cases h2 : nameF s with
    | false => rw [if_pos h2] at h; omega
    | true =>
      rw [if_neg (by simp [h2])] at h
      cases h3 : isF fs s with
      | true => exact ⟨h1, rfl, rfl⟩
      | false => rw [if_neg (by simp [h3])] at h; omega
  · rw [if_pos h1] at h; exact absurd h h1
end Go.Proofs.YtlibnefibeikcaaGreat
namespace Go.Proofs.YtlibnefibeikcaaGreat
open Go.RowKit
set_option linter.unusedVariables false
set_option linter.unusedSimpArgs false

/-- All of a beginning may be, and are apart; then what comes next is held against them one by one. -/
theorem chk_meet {l : List Ex} {k j : Nat} (hk : k < l.length) (hj : j < k) (hl : l.length ≤ 4096) (h : meetX l[k] (l[j]'(by omega)) = true) : chkX l = 8 := by
  by_cases ha : allX l = 0
  · refine chkX_apart (k := k + 1) hk ha ?_
    rw [take_snoc l k hk, apX_snoc, Bool.and_eq_false_iff]
    right
    rw [List.all_eq_false]
    refine ⟨l[j]'(by omega), ?_, by rw [h]; simp⟩
    rw [List.mem_take_iff_getElem]
    exact ⟨j, by omega, rfl⟩
  · rw [chkX_all ha]
    rcases allX_cases l with ⟨_, h1⟩ | ⟨h1, _⟩ | ⟨h1, _⟩
    · omega
    · exact h1
    · exact absurd h1 ha
theorem chk_bad {l : List Ex} {k : Nat} (hk : k < l.length) (hl : l.length ≤ 4096) (h : mayX l[k] = false) : chkX l = 8 := by
  have := allX_bad hk hl h
  rw [chkX_all (by rw [this]; decide), this]
theorem chk_long {l : List Ex} (h : 4096 < l.length) : chkX l = 4 := by
  have : allX l = 4 := by unfold allX; rw [if_pos h]
  rw [chkX_all (by rw [this]; decide), this]

set_option maxHeartbeats 1000000 in
theorem rCheck_ext (a : Option Addr) (n c : Nat) (l : List Ex) (w : World) (hrd : RdE w (.slice a n c) l) (hn : n = l.length) (hwf : ∀ x ∈ l, wfX x) :
    Calls Tryz.prog 180 #[.slice a n c] w fun e w' => e = .returned (.int .i64 (chkX l)) ∧ Below w.heap.size w w' := by
  have hm : n ≤ maxLen := hn ▸ hrd.len_le
  unfold maxLen at hm
  have HR := hide hrd
  have HN := hide hn
  have HW := hide hwf
  clear hrd hn hwf
  by_cases g1 : n > 4096
  · have HM := hide (chk_long (l := l) (by have := HN.out; omega))
    have g1' : (4096 : Int) < n := by omega
    go_enter Tryz.func180, Tryz.ntmps180
    go_wp2
    go_ret
    exact ⟨by rw [HM.out]; rfl, Below.refl _ _⟩
  have g1' : decide ((4096 : Int) < n) = false := by simpa using (by omega : ¬ (4096 : Int) < n)
  clear hm
  go_enter Tryz.func180, Tryz.ntmps180
  go_wp2
  go_loopw [3] (fun i wr => ∃ k : Nat, k ≤ n ∧ i = .int .i64 k ∧ Hid (∀ x ∈ l.take k, mayX x = true) ∧ Hid (apX (l.take k) = true) ∧ Below w.heap.size w wr) (fun i _ => n - (intOf i).toNat)
  case atStart => exact ⟨0, Nat.zero_le _, rfl, hide (by simp), hide (by simp [apX]), Below.refl _ _⟩
  case round =>
    obtain ⟨k, hk, rfl, hall, hap, hbel⟩ := hrel
    by_cases hlt : k < n
    · have hlt' : (k : Int) < n := by omega
      have hkl : k < l.length := by have := HN.out; omega
      have hw1 : wrap64 ((k : Int) + 1) = (k : Int) + 1 := wrapS (by omega)
      obtain ⟨b, off, e, q0, q1⟩ := (HR.out.carry hbel).at k hkl
      subst e
      go_wp2_with fail
      refine (rMay_any (l[k]) (HW.out _ (List.getElem_mem hkl)) _).mono ?_
      rintro e wc ⟨rfl, hbc⟩
      have hbc' : Below w.heap.size w wc := hbel.trans (hbc.mono hbel.size)
      clear hbc
      cases hp : mayX l[k] with
      | false =>
        have HM := hide (chk_bad hkl (by have := HN.out; omega) hp)
        clear hp
        go_wp2
        go_ret
        exact ⟨by rw [HM.out]; rfl, hbc'⟩
      | true =>
        have HP := hide hp
        have HA := hide (show ∀ x ∈ l.take (k + 1), mayX x = true by
          intro x hx
          rw [take_snoc l k hkl] at hx
          rcases List.mem_append.1 hx with hx | hx
          · exact hall.out x hx
          · rw [List.mem_singleton.1 hx]; exact hp)
        clear hp q0 q1 hbel
        go_wp2
        go_loopw [4] (fun i wr => ∃ j : Nat, j ≤ k ∧ i = .int .i64 j ∧ Hid (∀ y ∈ l.take j, meetX l[k] y = false) ∧ Below w.heap.size w wr) (fun i _ => k - (intOf i).toNat)
        case atStart => exact ⟨0, Nat.zero_le _, rfl, hide (by simp), hbc'⟩
        case round =>
          obtain ⟨j, hj, rfl, hno, hbel⟩ := hrel
          by_cases hjk : j < k
          · have hjk' : (j : Int) < k := by omega
            have hjl : j < l.length := by omega
            have hjn : j < n := by omega
            have hw2 : wrap64 ((j : Int) + 1) = (j : Int) + 1 := wrapS (by omega)
            obtain ⟨b, off, e, q0, q1⟩ := (HR.out.carry hbel).at k hkl
            cases e
            obtain ⟨b, off, e, q2, q3⟩ := (HR.out.carry hbel).at j hjl
            cases e
            have HPj := hide (HA.out (l[j]) (by rw [List.mem_take_iff_getElem]; exact ⟨j, by omega, rfl⟩))
            obtain ⟨S, eS⟩ : ∃ S : World → Prop, S = fun wx => (wx.cell? ⟨b, off + k * 2, none⟩ = some (.int .i64 (l[k]).1) ∧ wx.cell? ⟨b, off + k * 2 + 1, none⟩ = some (.int .i64 (l[k]).2)) ∧ (wx.cell? ⟨b, off + j * 2, none⟩ = some (.int .i64 (l[j]).1) ∧ wx.cell? ⟨b, off + j * 2 + 1, none⟩ = some (.int .i64 (l[j]).2)) ∧ Below wr.heap.size wr wx := ⟨_, rfl⟩
            have hK : Keeps S := by rw [eS]; exact ((keeps_cell _ _).and (keeps_cell _ _)).and (((keeps_cell _ _).and (keeps_cell _ _)).and (keeps_below wr))
            have hS0 : S wr := by rw [eS]; exact ⟨⟨q0, q1⟩, ⟨q2, q3⟩, Below.refl _ _⟩
            go_wp2
            rw [eS] at hK hS0
            refine reg_begin hK (by kernel_rfl) hS0 ?_
            intro hS
            refine reg_plan [0, 1, 2, 3, 4, 5, 6, 7] (fuel := 1) (a' := ?qa1) (by kernel_rfl) (by kernel_rfl) (by kernel_rfl) ?qp1 hS ?qn1
            case qp1 =>
              iterate 8 (apply Yl.cons rfl rfl; focus (rintro wx ⟨⟨x1, x2⟩, ⟨x3, x4⟩, x5⟩; go_simp; all_goals (with_reducible rfl)); try simp only [Act.put, List.setIfInBounds_toArray, List.set_cons_zero, List.set_cons_succ])
              exact Yl.nil
            refine reg_callv hK (i := 8) (v := .bool (meetX l[k] l[j])) rfl (by kernel_rfl) (by rfl) (by go_simp) hS (rmeet_any (l[k]) (l[j]) HP.out HPj.out _) ?_
            clear hS
            intro w33 hS
            try simp only [Act.put, List.setIfInBounds_toArray, List.set_cons_zero, List.set_cons_succ]
            refine wpAnyH_done (by kernel_rfl) ?_ _
            refine NoPanic.normal ?_
            cases hmt : meetX l[k] l[j] with
            | true =>
              have HM := hide (chk_meet hkl hjk (by have := HN.out; omega) hmt)
              have hbz := hbel.trans (hS.2.2.mono hbel.size)
              clear hmt
              go_wp2
              go_ret
              exact ⟨by rw [HM.out]; rfl, hbz⟩
            | false =>
              have HNO := hide (show ∀ y ∈ l.take (j + 1), meetX l[k] y = false by
                intro y hy
                rw [take_snoc l j hjl] at hy
                rcases List.mem_append.1 hy with hy | hy
                · exact hno.out y hy
                · rw [List.mem_singleton.1 hy]; exact hmt)
              have hbz := hbel.trans (hS.2.2.mono hbel.size)
              clear hmt
              go_wp2
              go_roundw
              case rel => exact ⟨j + 1, by omega, rfl, HNO, hbz⟩
              case measure => simp only [intOf]; omega
          · have hd : decide ((j : Int) < k) = false := by simpa using (by omega : ¬ (j : Int) < k)
            have HAP := hide (show apX (l.take (k + 1)) = true by
              rw [take_snoc l k hkl, apX_snoc, hap.out, Bool.true_and, List.all_eq_true]
              intro y hy
              rw [show k = j by omega] at hy
              rw [hno.out y hy]; rfl)
            go_wp2
            go_roundw
            case rel => exact ⟨k + 1, by omega, rfl, HA, HAP, hbel⟩
            case measure => simp only [intOf]; omega
    · have hd : decide ((k : Int) < n) = false := by simpa using (by omega : ¬ (k : Int) < n)
      have e : k = l.length := by have := HN.out; omega
      have HM := hide (show chkX l = 0 from chkX_good (allX_good (by omega) (by rw [← e]; exact hall.out)) (by have := hap.out; rwa [e, List.take_length] at this))
      clear e
      go_wp2
      go_ret
      exact ⟨by rw [HM.out]; rfl, hbel⟩

set_option maxHeartbeats 1000000 in
theorem rBlocks_ext (a : Option Addr) (n c : Nat) (l : List Ex) (w : World) (hrd : RdE w (.slice a n c) l) (hn : n = l.length) (hwf : ∀ x ∈ l, wfX x) :
    Calls Tryz.prog 151 #[.slice a n c] w fun e w' => ∃ v, e = .returned (.tuple #[v, .int .i64 (chkX l)]) ∧ OwI w' w.heap.size v (blocksR l) ∧ Below w.heap.size w w' := by
  have HR := hide hrd
  have HN := hide hn
  have HA := hide (rCheck_ext a n c l w hrd hn hwf)
  clear hrd hn hwf
  go_enter Tryz.func151, Tryz.ntmps151
  go_wp2_with fail
  refine HA.out.mono ?_
  rintro e wa ⟨rfl, hba⟩
  by_cases hz : chkX l = 0
  · have HZ := hide (chkX_ok hz).1
    have HM := hide (show blocksR l = blocksX l by unfold blocksR; rw [if_pos hz])
    rw [hz]
    have HC := hide hz
    have hn4 : n ≤ 4096 := by have := (allX_ok HZ.out).1; have := HN.out; omega
    clear hz
    go_wp2
    go_loopw [5, 6] (fun s i wr => ∃ k : Nat, k ≤ n ∧ i = .int .i64 k ∧ Hid (OwI wr w.heap.size s (blocksX (l.take k))) ∧ Below w.heap.size w wr) (fun _ i _ => n - (intOf i).toNat)
    case atStart => exact ⟨0, Nat.zero_le _, rfl, hide (OwI.nil _ _), hba⟩
    case round =>
      obtain ⟨k, hk, rfl, ho, hbel⟩ := hrel
      by_cases hlt : k < n
      · have hlt' : (k : Int) < n := by omega
        have hkl : k < l.length := by have := HN.out; omega
        have hw0 : wrap64 ((k : Int) + 1) = (k : Int) + 1 := wrapS (by omega)
        obtain ⟨b, off, e, q0, q1⟩ := (HR.out.carry hbel).at k hkl
        subst e
        have HQ := hide (fun wx (hb : Below w.heap.size w wx) => (HR.out.carry hb).at k hkl)
        have HE := hide (show blocksX (l.take (k + 1)) = blocksX (l.take k) ++ blkX l[k] (l[k]).2.toNat by rw [take_snoc l k hkl, blocksX_snoc])
        have hx := (allX_ok HZ.out).2 _ (List.getElem_mem hkl)
        have HL := hide (fun m hm => blocksX_le (m := m) HZ.out hkl hm)
        generalize hX : l[k] = X at *
        obtain ⟨P, R⟩ := X
        simp only at hx HE q0 q1 HL HQ
        obtain ⟨r, rfl⟩ : ∃ r : Nat, R = r := ⟨R.toNat, by omega⟩
        have hPr : wrap64 (P + (r : Int)) = P + (r : Int) := by unfold wrap64; omega
        have hPi : IntKind.i64.wrap (P + (r : Int)) = P + (r : Int) := by rw [IntKind.wrap_i64]; omega
        clear hX
        go_wp2
        go_loopw [5, 7] (fun s i wr => ∃ j : Nat, j ≤ r ∧ i = .int .i64 (P + (j : Int)) ∧ Hid (OwI wr w.heap.size s (blocksX (l.take k) ++ blkX (P, (r : Int)) j)) ∧ Below w.heap.size w wr) (fun _ i _ => (P + r - intOf i).toNat)
        case atStart => exact ⟨0, Nat.zero_le _, by simp, hide (by simpa [blkX] using ho.out), hbel⟩
        case round =>
          obtain ⟨j, hj, rfl, ho2, hbel2⟩ := hrel
          obtain ⟨b', off', e, p0, p1⟩ := HQ.out wr hbel2
          cases e
          by_cases hjt : j < r
          · have hjt' : P + (j : Int) < P + (r : Int) := by omega
            have hlen := HL.out j (by omega)
            have HRUN := hide (fun nq : Nat => app_int (w := wr.drewN nq) ho2.out hbel2.size (by omega) (P + j))
            have hw1 : wrap64 (P + (j : Int) + 1) = P + (j : Int) + 1 := by unfold wrap64; omega
            go_wp2
            go_quiet (fail)
            obtain ⟨g9, c9, w9, hrun, hown9, hbel9, -⟩ := HRUN.out nq
            have HO := hide (show OwI w9 w.heap.size (.slice (some ⟨g9, 0, none⟩) ((blocksX (l.take k) ++ blkX (P, (r : Int)) j).length + 1) c9) (blocksX (l.take k) ++ blkX (P, (r : Int)) (j + 1)) by
              rw [blkX_succ, ← List.append_assoc]; exact hown9)
            have hb9 : Below w.heap.size w w9 := hbel2.trans ⟨hbel9.os, hbel9.tape, hbel9.output, hbel9.size, hbel9.block⟩
            clear hown9 hbel9
            go_wp2_with (at_builtin; refine wpList_runappE rfl (.tmp 39) (.tmp 41) 135 rfl rfl rfl rfl hrun ?_)
            go_roundw
            case rel => exact ⟨j + 1, by omega, congrArg (Value.int .i64) (by omega), by rw [← List.length_append]; exact HO, hb9⟩
            case measure => simp only [intOf]; omega
          · have hd : decide (P + (j : Int) < P + (r : Int)) = false := by simpa using (by omega : ¬ P + (j : Int) < P + (r : Int))
            have hd2 : decide ((j : Int) < (r : Int)) = false := by simpa using (by omega : ¬ (j : Int) < (r : Int))
            have HO := hide (show OwI wr w.heap.size _ (blocksX (l.take (k + 1))) by
              rw [HE.out, Int.toNat_natCast]
              have e : j = r := by omega
              rw [← e]; rw [← e] at ho2; exact ho2.out)
            go_wp2
            go_quiet (fail)
            go_wp2
            go_roundw
            case rel => exact ⟨k + 1, by omega, rfl, HO, below_drewN hbel2 _⟩
            case measure => simp only [intOf]; omega
      · have hd : decide ((k : Int) < n) = false := by simpa using (by omega : ¬ (k : Int) < n)
        have HE := hide (show blocksX (l.take k) = blocksR l by rw [HM.out, List.take_of_length_le (by have := HN.out; omega)])
        go_wp2
        go_ret2
        exact ⟨_, by rw [HC.out]; rfl, by rw [← HE.out]; exact ho.out, hbel⟩
  · have HM := hide (show blocksR l = [] by unfold blocksR; rw [if_neg hz])
    generalize hE : chkX l = E at *
    have hz' : (E == 0) = false := by simpa using hz
    go_wp2
    go_ret2
    exact ⟨_, by rw [hE]; rfl, by rw [HM.out]; exact OwI.nil _ _, hba⟩

end Go.Proofs.YtlibnefibeikcaaGreat
namespace Go.Proofs.YtlibnefibeikcaaGreat
open Go.RowKit
set_option linter.unusedVariables false
set_option linter.unusedSimpArgs false

theorem rname_any (s : List UInt8) (w : World) : Calls Tryz.prog 125 #[.string (bs s)] w fun e w' => e = .returned (.bool (nameF s)) ∧ Below w.heap.size w w' := by
  have hbs := bs_size s
  have HE := hide (show nameF s = (decide ((1 : Int) ≤ s.length) && decide ((s.length : Int) ≤ 16)) by
    unfold nameF
    congr 1 <;> exact decide_eq_decide.2 (by omega))
  generalize s.length = n at *
  by_cases h1 : 1 ≤ n
  · have h1' : (1 : Int) ≤ n := by omega
    by_cases h2 : n ≤ 16
    · have h2' : (n : Int) ≤ 16 := by omega
      go_enter Tryz.func125, Tryz.ntmps125
      go_wp2
      go_ret
      exact ⟨by rw [HE.out]; simp [h1', h2'], Below.refl _ _⟩
    · have h2' : decide ((n : Int) ≤ 16) = false := by simpa using (by omega : ¬ (n : Int) ≤ 16)
      go_enter Tryz.func125, Tryz.ntmps125
      go_wp2
      go_ret
      exact ⟨by rw [HE.out, h2']; simp, Below.refl _ _⟩
  · have h1' : decide ((1 : Int) ≤ n) = false := by simpa using (by omega : ¬ (1 : Int) ≤ n)
    go_enter Tryz.func125, Tryz.ntmps125
    go_wp2
    go_ret
    exact ⟨by rw [HE.out, h1']; simp, Below.refl _ _⟩

theorem rblocked_any (B : Int) (w : World) : Calls Tryz.prog 146 #[.int .i64 B] w fun e w' => e = .returned (.bool (decide (blkP B))) ∧ Below w.heap.size w w' := by
  have HE := hide (show decide (blkP B) = (decide (34 < B) && decide (B ≤ 4096)) by unfold blkP; exact Bool.decide_and ..)
  by_cases h1 : 34 < B
  · by_cases h2 : B ≤ 4096
    · go_enter Tryz.func146, Tryz.ntmps146
      go_wp2
      go_ret
      exact ⟨by rw [HE.out]; simp [h1, h2], Below.refl _ _⟩
    · have h2' : decide (B ≤ 4096) = false := by simpa using h2
      go_enter Tryz.func146, Tryz.ntmps146
      go_wp2
      go_ret
      exact ⟨by rw [HE.out, h2']; simp, Below.refl _ _⟩
  · have h1' : decide (34 < B) = false := by simpa using h1
    go_enter Tryz.func146, Tryz.ntmps146
    go_wp2
    go_ret
    exact ⟨by rw [HE.out, h1']; simp, Below.refl _ _⟩

set_option maxHeartbeats 1000000 in
set_option maxRecDepth 100000 in
theorem rfind_any (a : Option Addr) (n c : Nat) (fs : List Fl) (s : List UInt8) (w : World) (hrd : RdF w (.slice a n c) fs) (hn : n = fs.length) (hnl : n ≤ 1000) :
    Calls Tryz.prog 112 #[.agg #[.slice a n c], .string (bs s)] w fun e w' => ((e = .returned (.int .i64 (-1)) ∧ isF fs s = false) ∨ ∃ t, ∃ h : t < fs.length, e = .returned (.int .i64 t) ∧ (fs[t]).1 = s ∧ isF fs s = true) ∧ Below w.heap.size w w' := by
  have HR := hide hrd
  have HN := hide hn
  obtain ⟨W0, hW0⟩ : ∃ W0, W0 = w.alloc (.cells #[.slice a n c] 30) := ⟨_, rfl⟩
  have hb0 : Below w.heap.size w W0 := by rw [hW0]; exact (Below.refl _ _).alloc (Nat.le_refl _) _
  have HD0 := hide (show DirAt W0 w.heap.size (.slice a n c) by rw [hW0]; exact DirAt.new w _)
  have HB0 := hide hb0
  clear hrd hn hb0
  go_enter Tryz.func112, Tryz.ntmps112
  go_wp2
  rw [← hW0]
  clear hW0
  go_loopw [5] (fun i wr => ∃ k : Nat, k ≤ n ∧ i = .int .i64 k ∧ Hid (∀ f ∈ fs.take k, f.1 ≠ s) ∧ Below W0.heap.size W0 wr) (fun i _ => n - (intOf i).toNat)
  case atStart => exact ⟨0, Nat.zero_le _, rfl, hide (by simp), Below.refl _ _⟩
  case round =>
    obtain ⟨k, hk, rfl, hno, hbel⟩ := hrel
    have hda := (HD0.out.carry hbel).cell
    have hbw : Below w.heap.size w wr := HB0.out.trans (hbel.mono HB0.out.size)
    by_cases hlt : k < n
    · have hlt' : (k : Int) < n := by omega
      have hkl : k < fs.length := by have := HN.out; omega
      have HT := hide (take_snocF fs k hkl)
      have hw1 : wrap64 ((k : Int) + 1) = (k : Int) + 1 := wrapS (by omega)
      obtain ⟨b, off, a2, c2, rfl, q0, q1, q2⟩ := HR.out.atB hbw k hkl
      clear q1 q2
      obtain ⟨f, hf⟩ : ∃ f, f = fs[k] := ⟨_, rfl⟩
      rw [← hf] at q0 HT
      have HF := hide hf
      clear hf
      obtain ⟨x, l⟩ := f
      simp only at q0
      by_cases g1 : x = s
      · have g1' : ((bs x).toList == (bs s).toList) = true := by rw [eq_ofN, g1]; simp
        have HG := hide g1
        clear g1
        go_wp2
        go_ret
        refine ⟨.inr ⟨k, hkl, rfl, by rw [← HF.out]; exact HG.out, ?_⟩, hbw⟩
        exact (isF_iff fs s).2 ⟨l, by rw [← HG.out, HF.out]; exact List.getElem_mem hkl⟩
      have g1' : ((bs x).toList == (bs s).toList) = false := by rw [eq_ofN]; simpa using g1
      have HE := hide (show ∀ f ∈ fs.take (k + 1), f.1 ≠ s by
        rw [HT.out]
        intro f hf
        rcases List.mem_append.1 hf with hf | hf
        · exact hno.out f hf
        · obtain rfl : f = (x, l) := by simpa using hf
          exact g1)
      clear g1
      go_wp2
      go_roundw
      case rel => exact ⟨k + 1, by omega, rfl, HE, hbel⟩
      case measure => simp only [intOf]; omega
    · have hd : decide ((k : Int) < n) = false := by simpa using (by omega : ¬ (k : Int) < n)
      have e : k = fs.length := by have := HN.out; omega
      rw [e, List.take_length] at hno
      clear e
      go_wp2
      go_ret
      refine ⟨.inl ⟨rfl, ?_⟩, hbw⟩
      cases hq : isF fs s with
      | false => rfl
      | true =>
        obtain ⟨l, hl⟩ := (isF_iff fs s).1 hq
        exact absurd rfl (hno.out _ hl)

set_option maxHeartbeats 1000000 in
set_option maxRecDepth 100000 in
theorem rused_any (a : Option Addr) (n c : Nat) (fs : List Fl) (w : World) (hrd : RdF w (.slice a n c) fs) (hn : n = fs.length) (hnl : n ≤ 1000) (hu : (usedF fs).length ≤ 1000000) :
    Calls Tryz.prog 114 #[.agg #[.slice a n c]] w fun e w' => ∃ v, e = .returned v ∧ OwE w' w.heap.size v (usedF fs) ∧ Below w.heap.size w w' := by
  have HR := hide hrd
  have HN := hide hn
  have HU := hide hu
  obtain ⟨W0, hW0⟩ : ∃ W0, W0 = w.alloc (.cells #[.slice a n c] 30) := ⟨_, rfl⟩
  have hb0 : Below w.heap.size w W0 := by rw [hW0]; exact (Below.refl _ _).alloc (Nat.le_refl _) _
  have HD0 := hide (show DirAt W0 w.heap.size (.slice a n c) by rw [hW0]; exact DirAt.new w _)
  have HB0 := hide hb0
  clear hrd hn hb0 hu
  go_enter Tryz.func114, Tryz.ntmps114
  go_wp2
  rw [← hW0]
  clear hW0
  go_loopw [3, 4] (fun v i wr => ∃ k : Nat, k ≤ n ∧ i = .int .i64 k ∧ Hid (OwE wr W0.heap.size v (usedF (fs.take k))) ∧ Below W0.heap.size W0 wr) (fun _ i _ => n - (intOf i).toNat)
  case atStart => exact ⟨0, Nat.zero_le _, rfl, hide (by simpa [usedF] using OwE.nil _ _), Below.refl _ _⟩
  case round =>
    obtain ⟨k, hk, rfl, hown, hbel⟩ := hrel
    have hda := (HD0.out.carry hbel).cell
    have hbw : Below w.heap.size w wr := HB0.out.trans (hbel.mono HB0.out.size)
    by_cases hlt : k < n
    · have hlt' : (k : Int) < n := by omega
      have hkl : k < fs.length := by have := HN.out; omega
      have HT := hide (usedF_take fs k hkl)
      have HUL := hide (show (usedF (fs.take k)).length + (fs[k]).2.length ≤ 1000000 by
        have h1 := HU.out
        have h2 := (used_sub (List.take_sublist (k + 1) fs)).length_le
        rw [usedF_take fs k hkl, List.length_append] at h2
        omega)
      have hw1 : wrap64 ((k : Int) + 1) = (k : Int) + 1 := wrapS (by omega)
      obtain ⟨b, off, a2, c2, rfl, q0, q1, q2⟩ := HR.out.atB hbw k hkl
      clear q0
      obtain ⟨f, hf⟩ : ∃ f, f = fs[k] := ⟨_, rfl⟩
      rw [← hf] at q1 q2 HT HUL
      clear hf
      obtain ⟨x, l⟩ := f
      simp only at q1 q2 HT HUL
      obtain ⟨p, hp⟩ : ∃ p, p = l.length := ⟨_, rfl⟩
      rw [← hp] at q1 q2
      obtain ⟨g, cc, w9, hrun, ho9, hb9⟩ := app_exN hown.out hbel.size (q2.carry hbw) hp (by have := HUL.out; omega)
      have HO9 := hide ho9
      have HB9 := hide (hbel.trans hb9)
      obtain ⟨av, cv, rfl⟩ := hown.out.form
      clear ho9 hb9 hown HUL hp q2
      rw [← HT.out] at hrun HO9
      clear HT
      generalize (usedF (fs.take k)).length = fl at *
      generalize (usedF (fs.take (k + 1))).length = gl at *
      go_wp2_with (at_builtin; refine wpList_runappE rfl (.tmp 12) (.tmp 18) 92 rfl rfl rfl rfl hrun ?_)
      go_roundw
      case rel => exact ⟨k + 1, by omega, rfl, HO9, HB9.out⟩
      case measure => simp only [intOf]; omega
    · have hd : decide ((k : Int) < n) = false := by simpa using (by omega : ¬ (k : Int) < n)
      have e : k = fs.length := by have := HN.out; omega
      rw [e, List.take_length] at hown
      clear e
      go_wp2
      go_ret
      exact ⟨_, rfl, hown.out.mono HB0.out.size, hbw⟩

set_option maxHeartbeats 1000000 in
set_option maxRecDepth 100000 in
theorem rwithin_any (a : Option Addr) (n c : Nat) (l : List Ex) (B : Int) (w : World) (hrd : RdE w (.slice a n c) l) (hn : n = l.length) (hwf : ∀ x ∈ l, wfX x) :
    Calls Tryz.prog 115 #[.slice a n c, .int .i64 B] w fun e w' => e = .returned (.bool (decide (extP l B))) ∧ Below w.heap.size w w' := by
  have hck := rCheck_ext a n c l w hrd hn hwf
  by_cases g1 : chkX l = 0
  case neg =>
    have HE := hide (show decide (extP l B) = false by simpa using fun h : extP l B => absurd h.1 g1)
    obtain ⟨z, hz⟩ : ∃ z, z = chkX l := ⟨_, rfl⟩
    rw [← hz] at hck g1
    have g1' : (z == 0) = false := by simpa using g1
    clear hz hrd hn hwf
    go_enter Tryz.func115, Tryz.ntmps115
    go_wp2_with fail
    refine hck.mono ?_
    rintro e w1 ⟨rfl, hb1⟩
    go_wp2
    go_ret
    exact ⟨by rw [HE.out]; rfl, hb1⟩
  have HA := hide (chkX_ok g1).1
  have HC := hide g1
  rw [g1] at hck
  have hnl : n ≤ 4096 := hn ▸ (allX_ok HA.out).1
  have HR := hide hrd
  have HN := hide hn
  clear hrd hn hwf g1
  go_enter Tryz.func115, Tryz.ntmps115
  go_wp2_with fail
  refine hck.mono ?_
  rintro e w1 ⟨rfl, hb1⟩
  clear hck
  go_wp2
  go_loopw [5] (fun i wr => ∃ k : Nat, k ≤ n ∧ i = .int .i64 k ∧ Hid (∀ x ∈ l.take k, 34 ≤ x.1 ∧ x.1 + x.2 ≤ B) ∧ Below w.heap.size w wr) (fun i _ => n - (intOf i).toNat)
  case atStart => exact ⟨0, Nat.zero_le _, rfl, hide (by simp), hb1⟩
  case round =>
    obtain ⟨k, hk, rfl, hyes, hbel⟩ := hrel
    clear hb1
    by_cases hlt : k < n
    · have hlt' : (k : Int) < n := by omega
      have hkl : k < l.length := by have := HN.out; omega
      have HT := hide (take_snocF l k hkl)
      have hw1 : wrap64 ((k : Int) + 1) = (k : Int) + 1 := wrapS (by omega)
      obtain ⟨b, off, rfl, q0, q1⟩ := (HR.out.carry hbel).at k hkl
      obtain ⟨z1, z2, z3⟩ := (allX_ok HA.out).2 _ (List.getElem_mem hkl)
      have HIN := hide (List.getElem_mem hkl)
      obtain ⟨x, hx⟩ : ∃ x, x = l[k] := ⟨_, rfl⟩
      rw [← hx] at q0 q1 HT z1 z2 z3 HIN
      clear hx
      obtain ⟨x, y⟩ := x
      simp only at q0 q1 z1 z2 z3
      have hwi : IntKind.i64.wrap (x + y) = x + y := by rw [IntKind.wrap_i64]; omega
      by_cases g1 : x < 34
      · have HE := hide (show decide (extP l B) = false by
          simp only [decide_eq_false_iff_not]
          intro h
          have := (h.2 _ HIN.out).1
          simp only at this; omega)
        go_wp2
        go_quiet (fail)
        go_wp2
        go_ret
        exact ⟨by rw [HE.out]; rfl, below_drewN hbel _⟩
      have g1' : decide (x < 34) = false := by simpa using g1
      by_cases g2 : B < x + y
      · have HE := hide (show decide (extP l B) = false by
          simp only [decide_eq_false_iff_not]
          intro h
          have := (h.2 _ HIN.out).2
          simp only at this; omega)
        go_wp2
        go_quiet (fail)
        go_wp2
        go_ret
        exact ⟨by rw [HE.out]; rfl, below_drewN hbel _⟩
      have g2' : decide (B < x + y) = false := by simpa using g2
      have HE := hide (show ∀ x ∈ l.take (k + 1), 34 ≤ x.1 ∧ x.1 + x.2 ≤ B by
        rw [HT.out]
        intro f hf
        rcases List.mem_append.1 hf with hf | hf
        · exact hyes.out f hf
        · obtain rfl : f = (x, y) := by simpa using hf
          simp only
          omega)
      go_wp2
      go_quiet (fail)
      go_wp2
      go_roundw
      case rel => exact ⟨k + 1, by omega, rfl, HE, below_drewN hbel _⟩
      case measure => simp only [intOf]; omega
    · have hd : decide ((k : Int) < n) = false := by simpa using (by omega : ¬ (k : Int) < n)
      have e : k = l.length := by have := HN.out; omega
      rw [e, List.take_length] at hyes
      clear e
      have HE := hide (show decide (extP l B) = true from decide_eq_true (⟨HC.out, hyes.out⟩ : extP l B))
      go_wp2
      go_ret
      exact ⟨by rw [HE.out]; rfl, hbel⟩

end Go.Proofs.YtlibnefibeikcaaGreat
namespace Go.Proofs.YtlibnefibeikcaaGreat
open Go.RowKit
set_option linter.unusedVariables false
set_option linter.unusedSimpArgs false

/-- A row of files of one's own, whose extents only are read. -/
def OwR (w0 w : World) (base : Nat) (v : Value) (fs : List Fl) : Prop := ∃ ps : List (Fl × Value), ps.map Prod.fst = fs ∧ w.ownsRow base 94 2 v ps.length (cellsP ps) ∧ ∀ p ∈ ps, RdE w0 p.2 p.1.2
theorem OwR.nil (w0 w : World) (base : Nat) : OwR w0 w base (.slice none 0 0) [] := ⟨[], rfl, World.ownsRow_nil w base _ _, by simp⟩
theorem OwR.rd {w0 w : World} {base : Nat} {v : Value} {fs : List Fl} (h : OwR w0 w base v fs) (hb : Below w0.heap.size w0 w) : RdF w v fs := by
  obtain ⟨ps, rfl, h, hi⟩ := h
  rcases h.2 with ⟨rfl, hn⟩ | ⟨g, cap, cur, rfl, _, hg, hn, hm, hsz, htake⟩
  · obtain rfl := List.length_eq_zero_iff.1 hn
    exact .inl ⟨rfl, .inl rfl⟩
  · refine .inr ⟨g, 0, cap, by simp, by simpa using hn, hm, fun j hj => ?_⟩
    have hj' : j < ps.length := by simpa using hj
    obtain ⟨e1, e2⟩ := cellsP_get ps j hj'
    have c1 := h.cells (g := g) rfl _ _ e1
    have c2 := h.cells (g := g) rfl _ _ e2
    rw [Addr.add_lit] at c1 c2
    have hI := (hi ps[j] (List.getElem_mem hj')).carry hb
    obtain ⟨a, c, hv⟩ := hI.form
    simp only [List.getElem_map]
    refine ⟨by simpa using c1, a, c, ?_, ?_⟩
    · rw [hv] at c2; simpa [Nat.add_assoc] using c2
    · rw [← hv]; exact hI
theorem OwR.form {w0 w : World} {base : Nat} {v : Value} {fs : List Fl} (h : OwR w0 w base v fs) : ∃ a c, v = .slice a fs.length c := by
  obtain ⟨ps, rfl, h, hi⟩ := h
  rcases h.2 with ⟨rfl, hn⟩ | ⟨g, cap, cur, rfl, _⟩
  · exact ⟨none, 0, by rw [List.length_map, hn]⟩
  · exact ⟨_, _, by rw [List.length_map]⟩
end Go.Proofs.YtlibnefibeikcaaGreat
namespace Go.Proofs.YtlibnefibeikcaaGreat
open Go.RowKit
set_option linter.unusedVariables false
set_option linter.unusedSimpArgs false

def FileAt (w : World) (q : Nat) (s : ByteArray) (y : Value) : Prop := w.heap[q]? = some (.cells #[.string s, y] 94 (0, 0))
theorem FileAt.carry {w w' : World} {q : Nat} {s : ByteArray} {y : Value} (h : FileAt w q s y) (hb : Below w.heap.size w w') : FileAt w' q s y := (hb.block q (Array.getElem?_eq_some_iff.1 h).1).trans h
theorem FileAt.cell1 {w : World} {q : Nat} {s : ByteArray} {y : Value} (h : FileAt w q s y) : w.cell? ⟨q, 1, none⟩ = some y := by rw [cell_of_row w q 1 _ _ (0, 0) h]; rfl
theorem FileAt.cell0 {w : World} {q : Nat} {s : ByteArray} {y : Value} (h : FileAt w q s y) : w.cell? ⟨q, 0, none⟩ = some (.string s) := by rw [cell_of_row w q 0 _ _ (0, 0) h]; rfl
theorem FileAt.new (w : World) (s : ByteArray) (y : Value) : FileAt (w.alloc (.cells #[.string s, y] 94)) w.heap.size s y := heap_alloc_new w _
end Go.Proofs.YtlibnefibeikcaaGreat
