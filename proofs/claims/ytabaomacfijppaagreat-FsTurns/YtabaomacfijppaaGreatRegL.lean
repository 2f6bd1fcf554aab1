/-
  A region whose order is drawn and whose last operation writes over what the region read: what is known of the world is asked behind every operation but that one.
-/
import Derived.Test.YtabaomacfijppaaGreatFiFind
import Derived.Test.YtabaomacfijppaaGreatRmKit
namespace Go.Proofs.YtabaomacfijppaaGreat
open Go.RowKit
set_option linter.unusedVariables false
set_option linter.unusedSimpArgs false

theorem rsmall_by (n : Nat) (w : World) (hn : n < 18446744073709551616) : Calls Tryz.prog 117 #[.int .u64 n] w fun e w' => ∃ v, e = .returned v ∧ OwBy w' w.heap.size v (sm n) ∧ Below w.heap.size w w' := rsmall_any n w hn
theorem rtext_by (s : List UInt8) (w : World) (hs : s.length ≤ 1000000) : Calls Tryz.prog 118 #[.string (bs s)] w fun e w' => ∃ v, e = .returned v ∧ OwBy w' w.heap.size v (tx s) ∧ Below w.heap.size w w' := by
  have := rtext_any (bs s) w (by rw [bs_size]; omega)
  rwa [bs_toList] at this

theorem rname_same (s : List UInt8) (w : World) : Calls Tryz.prog 107 #[.string (bs s)] w fun e w' => e = .returned (.bool (nameF s)) ∧ w' = w := by
  have hbs := bs_size s
  have HE := hide (show nameF s = (decide ((1 : Int) ≤ s.length) && decide ((s.length : Int) ≤ 16)) by
    unfold nameF
    congr 1 <;> exact decide_eq_decide.2 (by omega))
  generalize s.length = n at *
  by_cases h1 : 1 ≤ n
  · have h1' : (1 : Int) ≤ n := by omega
    by_cases h2 : n ≤ 16
    · have h2' : (n : Int) ≤ 16 := by omega
      go_enter Tryz.func107, Tryz.ntmps107
      go_wp2
      go_ret
      exact ⟨by rw [HE.out]; simp [h1', h2'], rfl⟩
    · have h2' : decide ((n : Int) ≤ 16) = false := by simpa using (by omega : ¬ (n : Int) ≤ 16)
      go_enter Tryz.func107, Tryz.ntmps107
      go_wp2
      go_ret
      exact ⟨by rw [HE.out, h2']; simp, rfl⟩
  · have h1' : decide ((1 : Int) ≤ n) = false := by simpa using (by omega : ¬ (1 : Int) ≤ n)
    go_enter Tryz.func107, Tryz.ntmps107
    go_wp2
    go_ret
    exact ⟨by rw [HE.out, h1']; simp, rfl⟩

set_option maxHeartbeats 4000000 in
set_option maxRecDepth 100000 in
theorem rbytes_any (a : Option Addr) (n c : Nat) (fs : List Fl) (w : World) (hrd : RdF w (.slice a n c) fs) (hn : n = fs.length) (hok : okB fs) :
    Calls Tryz.prog 58 #[.agg #[.slice a n c]] w fun e w' => ∃ v, e = .returned v ∧ OwBy w' w.heap.size v (bytF fs) ∧ Below w.heap.size w w' := by
  have hm : n ≤ 1000 := hn ▸ hok.1
  obtain ⟨W0, hW0⟩ : ∃ W0, W0 = w.alloc (.cells #[.slice a n c] 30) := ⟨_, rfl⟩
  have hb0 : Below w.heap.size w W0 := by rw [hW0]; exact (Below.refl _ _).alloc (Nat.le_refl _) _
  have HD0 := hide (show DirAt W0 w.heap.size (.slice a n c) by rw [hW0]; exact DirAt.new w _)
  have hd0 := HD0.out.cell
  rw [hW0] at hd0
  have HB0 := hide hb0
  have HR := hide (hrd.carry hb0)
  have HN := hide hn
  have HK := hide hok
  clear hrd hn hok hb0
  go_enter Tryz.func58, Tryz.ntmps58
  go_wp2_with fail
  rw [← hW0]
  clear hW0 hd0
  refine (rsmall_by n W0 (by omega)).mono ?_
  rintro e w1 ⟨v1, rfl, ho1, hb1⟩
  have hd1 := (HD0.out.carry hb1).cell
  go_wp2
  clear hd1
  go_loopw [4, 3] (fun i v wr => ∃ k : Nat, k ≤ n ∧ i = .int .i64 k ∧ Hid (OwBy wr W0.heap.size v (sm n ++ (fs.take k).flatMap bytFl)) ∧ Below W0.heap.size W0 wr) (fun i _ _ => n - (intOf i).toNat)
  case atStart => exact ⟨0, Nat.zero_le _, rfl, hide (by simpa using ho1), hb1⟩
  case round =>
    obtain ⟨k, hk, rfl, hown, hbel⟩ := hrel
    have hda := (HD0.out.carry hbel).cell
    clear ho1 hb1
    by_cases hlt : k < n
    · have hlt' : (k : Int) < n := by omega
      have hkl : k < fs.length := by have := HN.out; omega
      have HU := hide (bytF_take fs k hkl)
      have HLL := hide (okB_take HK.out k)
      have hw1 : wrap64 ((k : Int) + 1) = (k : Int) + 1 := wrapS (by omega)
      obtain ⟨b, off, a2, c2, rfl, q0, q1, q2⟩ := HR.out.atB hbel k hkl
      have HQ := hide q2
      clear q2
      have HFK := hide (HK.out.2 _ (List.getElem_mem hkl))
      obtain ⟨f, hf⟩ : ∃ f, f = fs[k] := ⟨_, rfl⟩
      rw [← hf] at q0 q1 HQ HU HFK
      clear hf
      obtain ⟨L, hL⟩ : ∃ L, L = (fs.take k).flatMap bytFl := ⟨_, rfl⟩
      rw [← hL] at hown HU HLL
      clear hL
      obtain ⟨m, hm2⟩ : ∃ m, m = f.2.length := ⟨_, rfl⟩
      rw [← hm2] at q1 HQ
      have hmm : m ≤ 1000 := by rw [hm2]; exact HFK.out.2.1
      have HM2 := hide hm2
      clear hm2
      have HSM := hide (sm_len_le10 (n := n) (by omega))
      have HSM2 := hide (sm_len_le10 (n := m) (by omega))
      have HTX := hide (show (tx f.1).length ≤ 1010 by
        have h1 := HFK.out.1
        have := sm_len_le10 (n := f.1.length) (by omega)
        simp only [tx, List.length_append]; omega)
      -- the file's copy, its name
      obtain ⟨w2, hw2⟩ : ∃ w2, w2 = wr.alloc (.cells #[.string (bs f.1), .slice a2 m c2] 75) := ⟨_, rfl⟩
      obtain ⟨F, hF⟩ : ∃ F, F = wr.heap.size := ⟨_, rfl⟩
      have hblk : FileAt w2 F (bs f.1) (.slice a2 m c2) := by rw [hw2, hF]; exact FileAt.new wr _ _
      have hb2 : Below wr.heap.size wr w2 := by rw [hw2]; exact (Below.refl _ _).alloc (Nat.le_refl _) _
      have hbel2 : Below W0.heap.size W0 w2 := hbel.trans (hb2.mono hbel.size)
      have HO2 := hide (hown.out.carry hb2)
      have s0 := hblk.cell0
      rw [hw2] at s0
      go_wp2_with fail
      rw [← hw2]
      rw [← hF]
      clear hown s0
      refine (rtext_by f.1 _ (by have := HFK.out.1; omega)).mono ?_
      rintro e w3 ⟨v3, rfl, ho3, hb3⟩
      have hbel3 : Below W0.heap.size W0 w3 := hbel2.trans (hb3.mono hbel2.size)
      obtain ⟨v4, w4, hrun4, ho4, hb4, hk4⟩ := app_by (HO2.out.carry hb3) hbel3.size (own_rd ho3) (by
        have h1 := HSM.out
        have h2 := HLL.out
        have h3 := HTX.out
        rw [List.length_append]; omega)
      have hbel4 : Below W0.heap.size W0 w4 := hbel3.trans hb4
      have hblk4 : FileAt w4 F (bs f.1) (.slice a2 m c2) := hk4 _ _ _ _ (by decide) (KeepB.of_below hb3 _ _ _ _ (by decide) hblk)
      have r4 := hblk4.cell1
      have HO4 := hide ho4
      have HB4 := hide hbel4
      have HK4 := hide hblk4
      clear ho4 hbel4 hb4 hk4 ho3 hb3 hbel3 hblk hb2 hw2 hbel2 HO2 hblk4 hbel q0 q1 hda hF
      go_wp2_with (first | (at_builtin; refine wpList_runappE rfl (.tmp 24) (.tmp 27) 22 rfl rfl rfl rfl hrun4 ?_) | fail)
      refine (rsmall_by m _ (by omega)).mono ?_
      rintro e w5 ⟨v5, rfl, ho5, hb5⟩
      have hbel5 : Below W0.heap.size W0 w5 := HB4.out.trans (hb5.mono HB4.out.size)
      obtain ⟨v6, w6, hrun6, ho6, hb6, hk6⟩ := app_by (HO4.out.carry hb5) hbel5.size (own_rd ho5) (by
        have h1 := HSM.out
        have h2 := HLL.out
        have h3 := HTX.out
        have h4 := HSM2.out
        simp only [List.length_append]; omega)
      have hbel6 : Below W0.heap.size W0 w6 := hbel5.trans hb6
      have hblk6 : FileAt w6 F (bs f.1) (.slice a2 m c2) := hk6 _ _ _ _ (by decide) (KeepB.of_below hb5 _ _ _ _ (by decide) HK4.out)
      have r6 := hblk6.cell1
      have HO6 := hide ho6
      have HB6 := hide hbel6
      have HK6 := hide hblk6
      clear ho6 hbel6 hb6 hk6 ho5 hb5 hbel5 hblk6 HO4 HB4 HK4 r4 hrun4
      go_wp2_with (at_builtin; refine wpList_runappE rfl (.tmp 29) (.tmp 34) 22 rfl rfl rfl rfl hrun6 ?_)
      go_loopw [6, 3] (fun i v wx => ∃ j : Nat, j ≤ m ∧ i = .int .i64 j ∧ Hid (OwBy wx W0.heap.size v (sm n ++ L ++ tx f.1 ++ sm m ++ bytE (f.2.take j))) ∧ Hid (FileAt wx F (bs f.1) (.slice a2 m c2)) ∧ Below W0.heap.size W0 wx) (fun i _ _ => m - (intOf i).toNat)
      case atStart => exact ⟨0, Nat.zero_le _, rfl, hide (by simpa [bytE] using HO6.out), HK6, HB6.out⟩
      case round =>
        obtain ⟨j, hj, rfl, hown, hfat, hbel⟩ := hrel
        have HLT := hide hlt
        clear HO6 HB6 r6 hrun6 hlt' hlt HK6
        have s1 := hfat.out.cell1
        by_cases hjm : j < m
        · have hjm' : (j : Int) < m := by omega
          have hwj : wrap64 ((j : Int) + 1) = (j : Int) + 1 := wrapS (by omega)
          have hjl : j < f.2.length := by have := HM2.out; omega
          have HE := hide (bytE_take f.2 j hjl)
          obtain ⟨bx, ox, rfl, p0, p1⟩ := (HQ.out.carry hbel).at j hjl
          have HX := hide (HFK.out.2.2 _ (List.getElem_mem hjl))
          have HBE := hide (show (bytE (f.2.take j)).length ≤ 20000 by
            have := bytE_len (f.2.take j) (fun x hx => HFK.out.2.2 x (List.mem_of_mem_take hx))
            have h2 := HFK.out.2.1
            rw [List.length_take] at this; omega)
          have HP := hide (fun (wz : World) (hz : Below W0.heap.size W0 wz) => (HQ.out.carry hz).at j hjl)
          obtain ⟨x, hx⟩ : ∃ x, x = f.2[j] := ⟨_, rfl⟩
          rw [← hx] at p0 p1 HE HX HP
          clear hx
          obtain ⟨x, y⟩ := x
          obtain ⟨x, rfl⟩ : ∃ p : Nat, x = p := ⟨x.toNat, by have := HX.out.1; simp only at this; omega⟩
          obtain ⟨y, rfl⟩ : ∃ p : Nat, y = p := ⟨y.toNat, by have := HX.out.2.2.1; simp only at this; omega⟩
          have hx1 : x ≤ 4096 := by have := HX.out.2.1; simp only at this; omega
          have hy1 : y ≤ 4096 := by have := HX.out.2.2.2; simp only at this; omega
          simp only at p0 p1
          have HE2 := hide (show bytE (f.2.take (j + 1)) = bytE (f.2.take j) ++ (sm x ++ sm y) by have := HE.out; simpa [bytX] using this)
          clear HE HX
          obtain ⟨M, hM⟩ : ∃ M, M = sm n ++ L ++ tx f.1 ++ sm m ++ bytE (f.2.take j) := ⟨_, rfl⟩
          have HML := hide (show M.length ≤ 100000000 by
            have h1 := HSM.out
            have h2 := HLL.out
            have h3 := HTX.out
            have h4 := HSM2.out
            have h5 := HBE.out
            rw [hM]
            simp only [List.length_append]; omega)
          rw [← hM] at hown
          have HM := hide hM
          clear hM
          have HSX := hide (sm_len_le10 (n := x) (by omega))
          have HSY := hide (sm_len_le10 (n := y) (by omega))
          go_wp2_with fail
          refine (rsmall_by x _ (by omega)).mono ?_
          rintro e w3 ⟨v3, rfl, ho3, hb3⟩
          have hbel3 : Below W0.heap.size W0 w3 := hbel.trans (hb3.mono hbel.size)
          obtain ⟨v4, w4, hrun4, ho4, hb4, hk4⟩ := app_by (hown.out.carry hb3) hbel3.size (own_rd ho3) (by
            have h1 := HML.out
            have h2 := HSX.out
            omega)
          have hbel4 : Below W0.heap.size W0 w4 := hbel3.trans hb4
          have hblk4 : FileAt w4 F (bs f.1) (.slice (some ⟨bx, ox, none⟩) m c2) := hk4 _ _ _ _ (by decide) (KeepB.of_below hb3 _ _ _ _ (by decide) hfat.out)
          have r4 := hblk4.cell1
          obtain ⟨bx', ox', e4, p2, p3⟩ := HP.out w4 hbel4
          cases e4
          have HO4 := hide ho4
          have HB4 := hide hbel4
          have HK4 := hide hblk4
          clear ho4 hbel4 hb4 hk4 ho3 hb3 hbel3 hblk4 hbel p0 p1 hown hfat s1 p2
          go_wp2_with (first | (at_builtin; refine wpList_runappE rfl (.tmp 43) (.tmp 51) 22 rfl rfl rfl rfl hrun4 ?_) | fail)
          refine (rsmall_by y _ (by omega)).mono ?_
          rintro e w5 ⟨v5, rfl, ho5, hb5⟩
          have hbel5 : Below W0.heap.size W0 w5 := HB4.out.trans (hb5.mono HB4.out.size)
          obtain ⟨v6, w6, hrun6, ho6, hb6, hk6⟩ := app_by (HO4.out.carry hb5) hbel5.size (own_rd ho5) (by
            have h1 := HML.out
            have h2 := HSX.out
            have h3 := HSY.out
            simp only [List.length_append]; omega)
          have HO6 := hide ho6
          have HB6 := hide (hbel5.trans hb6)
          have HK6 := hide (show FileAt w6 F (bs f.1) (.slice (some ⟨bx, ox, none⟩) m c2) from hk6 _ _ _ _ (by decide) (KeepB.of_below hb5 _ _ _ _ (by decide) HK4.out))
          clear ho6 hb6 hk6 ho5 hb5 hbel5 HO4 HB4 r4 hrun4 HK4 p3 HP
          go_wp2_with (at_builtin; refine wpList_runappE rfl (.tmp 53) (.tmp 61) 22 rfl rfl rfl rfl hrun6 ?_)
          go_roundw
          case rel => exact ⟨j + 1, by omega, rfl, hide (by
            rw [HE2.out]
            have := HO6.out
            rw [HM.out] at this
            simpa using this), HK6, HB6.out⟩
          case measure => simp only [intOf]; omega
        · have hd2 : decide ((j : Int) < m) = false := by simpa using (by omega : ¬ (j : Int) < m)
          have e : j = f.2.length := by have := HM2.out; omega
          rw [e, List.take_length] at hown
          have HO := hide (hown.out)
          clear e hown
          go_wp2
          go_roundw
          case rel => exact ⟨k + 1, HLT.out, rfl, hide (by
            rw [HU.out]
            have := HO.out
            rw [HM2.out] at this
            simpa [bytFl] using this), hbel⟩
          case measure => have := HLT.out; simp only [intOf]; omega
    · have hd : decide ((k : Int) < n) = false := by simpa using (by omega : ¬ (k : Int) < n)
      have e : k = fs.length := by have := HN.out; omega
      rw [e, List.take_length] at hown
      clear e
      go_wp2
      go_ret
      refine ⟨_, rfl, ?_, HB0.out.trans (hbel.mono HB0.out.size)⟩
      have := own_monoE hown.out HB0.out.size
      unfold bytF
      rw [← HN.out]
      exact this

end Go.Proofs.YtabaomacfijppaaGreat
namespace Go.Proofs.YtabaomacfijppaaGreat
open Go.RowKit
set_option linter.unusedVariables false

section
variable {P : Program} {md : Region.Mode} {ops : Array Oper} {Q : Exit → Act → World → Prop} {S : World → Prop} {L : Nat}

def wpAnyL (P : Program) (md : Region.Mode) (ops : Array Oper) (Q : Exit → Act → World → Prop) (S : World → Prop) (L : Nat) : Nat → Array Bool → Act → World → Prop
  | 0, listed, a, w => Region.ready md ops listed = [] ∧ Q .normal a w
  | fuel + 1, listed, a, w =>
    (Region.ready md ops listed = [] → Q .normal a w) ∧
    ∀ i ∈ Region.ready md ops listed, wpOp P ops Q i (fun a' w' => ((listed.setIfInBounds i true).getD L true = false → S w') ∧ wpAnyL P md ops Q S L fuel (listed.setIfInBounds i true) a' w') a w

theorem wpAny_of_L : ∀ (fuel : Nat) (listed : Array Bool) (a : Act) (w : World), wpAnyL P md ops Q S L fuel listed a w → wpAny P md ops Q fuel listed a w
  | 0, _, _, _, h => h
  | fuel + 1, _, _, _, h => ⟨h.1, fun i hi => wpOp_mono (fun a' w' h' => wpAny_of_L fuel _ a' w' h'.2) (h.2 i hi)⟩

theorem wpAnyL_mono {S' : World → Prop} (h : ∀ w, S' w → S w) : ∀ (fuel : Nat) (listed : Array Bool) (a : Act) (w : World), wpAnyL P md ops Q S' L fuel listed a w → wpAnyL P md ops Q S L fuel listed a w
  | 0, _, _, _, k => k
  | fuel + 1, _, _, _, k => ⟨k.1, fun i hi => wpOp_mono (fun _ w' hh => ⟨fun e => h w' (hh.1 e), wpAnyL_mono h fuel _ _ _ hh.2⟩) (k.2 i hi)⟩

theorem wpAnyL_first {i : Nat} {oi : Oper} {v : Value} (hi : ops[i]? = some oi) (hsel : ∀ (j : Nat) (o : Oper) cs b, ops[j]? = some o → o.op ≠ .select cs b)
    (hQ : ∀ c a w, Q (.panic c) (a.put oi.dst v) w → Q (.panic c) a w) (hiL : i ≠ L) (hL : ∀ oL, ops[L]? = some oL → ∃ e ∈ oL.after, Region.binds md e = true ∧ e.on = i) :
    ∀ (fuel : Nat) (listed : Array Bool) (a : Act) (w : World), listed.getD L true = false →
      (∀ j oj, ops[j]? = some oj → j ≠ i → listed.getD j true = false → (∀ e ∈ oj.after, Region.binds md e = true → e.on ≠ i) → oi.apart ops oj = true) →
      i ∈ Region.ready md ops listed → YieldsIf P ops S oi v a → S w →
      wpAnyL P md ops Q S L fuel (listed.setIfInBounds i true) (a.put oi.dst v) w → wpAnyL P md ops Q S L (fuel + 1) listed a w := by
  intro fuel
  induction fuel with
  | zero =>
    intro listed a w _ _ hr hy hS H
    refine ⟨fun h => (by rw [h] at hr; cases hr), fun j hj => ?_⟩
    by_cases hji : j = i
    · subst hji; exact hy.wpOp hi hS ⟨fun _ => hS, H⟩
    · have := ready_mono hj hji
      rw [H.1] at this
      cases this
  | succ fuel ih =>
    intro listed a w hun hfree hr hy hS H
    refine ⟨fun h => (by rw [h] at hr; cases hr), fun j hj => ?_⟩
    by_cases hji : j = i
    · subst hji; exact hy.wpOp hi hS ⟨fun _ => hS, H⟩
    · have h1 := H.2 j (ready_mono hj hji)
      obtain ⟨hjun, oj, hoj, hall⟩ := mem_ready.1 hj
      have hnot : ∀ e ∈ oj.after, Region.binds md e = true → e.on ≠ i := fun e he hb heq => by
        have h1 := hall e he hb
        have h0 := (mem_ready.1 hr).1
        rw [heq] at h1
        rcases Nat.lt_or_ge i listed.size with h' | h'
        · simp [h'] at h0 h1; rw [h0] at h1; cases h1
        · simp [Array.getElem?_eq_none h'] at h1
      have hjL : j ≠ L := by
        intro e
        obtain ⟨x, hx, hb, ho⟩ := hL oj (e ▸ hoj)
        exact hnot x hx hb ho
      have hunj : (listed.setIfInBounds j true).getD L true = false := by rw [getD_set_ne true hjL]; exact hun
      have hunij : ((listed.setIfInBounds i true).setIfInBounds j true).getD L true = false := by rw [getD_set_ne true hjL, getD_set_ne true hiL]; exact hun
      have h2 := wpOp_putIf hoj (hfree j oj hoj hji hjun hnot) (fun cs b => hsel i oi cs b hi) (fun cs b => hsel j oj cs b hoj) hQ hy h1
      have hfree' : ∀ k ok, ops[k]? = some ok → k ≠ i → (listed.setIfInBounds j true).getD k true = false →
          (∀ e ∈ ok.after, Region.binds md e = true → e.on ≠ i) → oi.apart ops ok = true := fun k ok hk hki hun hno => by
        refine hfree k ok hk hki ?_ hno
        by_cases hjk : j = k
        · subst hjk; exact hjun
        · rw [getD_set_ne true hjk] at hun; exact hun
      refine wpOp_mono (fun a' w' h3 => ⟨fun _ => h3.2.1 hunij, ih (listed.setIfInBounds j true) a' w' hunj hfree' (ready_mono hr (Ne.symm hji)) h3.1 (h3.2.1 hunij) ?_⟩) h2
      rw [Array.setIfInBounds_comm _ _ hji]
      exact h3.2.2

theorem wpAnyL_firstP {i : Nat} {oi : Oper} {v : Value} (hi : ops[i]? = some oi) (hsel : ∀ (j : Nat) (o : Oper) cs b, ops[j]? = some o → o.op ≠ .select cs b)
    (hQ : ∀ c a w, Q (.panic c) (a.put oi.dst v) w → Q (.panic c) a w) (hiL : i ≠ L) :
    ∀ (fuel : Nat) (listed : Array Bool) (a : Act) (w : World),
      (∀ j oj, ops[j]? = some oj → j ≠ i → listed.getD j true = false → (∀ e ∈ oj.after, Region.binds md e = true → e.on ≠ i) → oi.apart ops oj = true) →
      i ∈ Region.ready md ops listed → YieldsIf P ops (fun _ => True) oi v a → (listed.getD L true = false → S w) →
      wpAnyL P md ops Q S L fuel (listed.setIfInBounds i true) (a.put oi.dst v) w → wpAnyL P md ops Q S L (fuel + 1) listed a w := by
  intro fuel
  induction fuel with
  | zero =>
    intro listed a w _ hr hy hS H
    refine ⟨fun h => (by rw [h] at hr; cases hr), fun j hj => ?_⟩
    by_cases hji : j = i
    · subst hji; exact hy.wpOp hi trivial ⟨fun h => hS (by rw [getD_set_ne true hiL] at h; exact h), H⟩
    · have := ready_mono hj hji
      rw [H.1] at this
      cases this
  | succ fuel ih =>
    intro listed a w hfree hr hy hS H
    refine ⟨fun h => (by rw [h] at hr; cases hr), fun j hj => ?_⟩
    by_cases hji : j = i
    · subst hji; exact hy.wpOp hi trivial ⟨fun h => hS (by rw [getD_set_ne true hiL] at h; exact h), H⟩
    · have h1 := H.2 j (ready_mono hj hji)
      obtain ⟨hjun, oj, hoj, hall⟩ := mem_ready.1 hj
      have hnot : ∀ e ∈ oj.after, Region.binds md e = true → e.on ≠ i := fun e he hb heq => by
        have h1 := hall e he hb
        have h0 := (mem_ready.1 hr).1
        rw [heq] at h1
        rcases Nat.lt_or_ge i listed.size with h' | h'
        · simp [h'] at h0 h1; rw [h0] at h1; cases h1
        · simp [Array.getElem?_eq_none h'] at h1
      have hcomm : (listed.setIfInBounds i true).setIfInBounds j true = (listed.setIfInBounds j true).setIfInBounds i true := Array.setIfInBounds_comm _ _ (Ne.symm hji)
      have hset : (listed.setIfInBounds j true).getD L true = false → ((listed.setIfInBounds i true).setIfInBounds j true).getD L true = false := fun h => by rw [hcomm, getD_set_ne true hiL]; exact h
      have h2 := wpOp_putIf hoj (hfree j oj hoj hji hjun hnot) (fun cs b => hsel i oi cs b hi) (fun cs b => hsel j oj cs b hoj) hQ hy h1
      have hfree' : ∀ k ok, ops[k]? = some ok → k ≠ i → (listed.setIfInBounds j true).getD k true = false →
          (∀ e ∈ ok.after, Region.binds md e = true → e.on ≠ i) → oi.apart ops ok = true := fun k ok hk hki hun hno => by
        refine hfree k ok hk hki ?_ hno
        by_cases hjk : j = k
        · subst hjk; exact hjun
        · rw [getD_set_ne true hjk] at hun; exact hun
      refine wpOp_mono (fun a' w' h3 => ⟨fun h => h3.2.1 (hset h), ih (listed.setIfInBounds j true) a' w' hfree' (ready_mono hr (Ne.symm hji)) h3.1 (fun h => h3.2.1 (hset h)) ?_⟩) h2
      rw [← hcomm]
      exact h3.2.2

def waitsFor (md : Region.Mode) (ops : Array Oper) (L i : Nat) : Bool := match ops[L]? with
  | some o => o.after.any fun e => Region.binds md e && e.on == i
  | none => true
theorem waitsFor_spec {i : Nat} (h : waitsFor md ops L i = true) : ∀ oL, ops[L]? = some oL → ∃ e ∈ oL.after, Region.binds md e = true ∧ e.on = i := by
  intro oL ho
  unfold waitsFor at h
  rw [ho] at h
  obtain ⟨j, hj, hh⟩ := Array.any_eq_true.1 h
  simp only [Bool.and_eq_true, beq_iff_eq] at hh
  exact ⟨_, Array.getElem_mem hj, hh.1, hh.2⟩

theorem regL_begin (hK : Keeps S) {id : Nat} {a : Act} {w : World} (L : Nat) (hm : P.follows .mixedOrders = true) (hS : S w)
    (h : S w.drew → wpAnyL P .any ops (NoPanic Q) S L ops.size (Array.replicate ops.size false) a w.drew) : (Code.region id ops true).wp P Q a w :=
  wp_region_noPanic (wp_region_any hm (wpAny_of_L _ _ _ _ (h (hK _ _ hS (Below.refl _ _).drew))))

theorem regL_take {i : Nat} {dst : Option Tmp} {op : Op} {ty : TypeId} {pos : String} {aft : Array Edge} {gd : Option (Nat × Bool)} {v : Value} {fuel : Nat} {listed : Array Bool} {a : Act} {w : World} (hi : ops[i]? = some { dst := dst, op := op, type := ty, pos := pos, after := aft, guard := gd })
    (hs : Region.noSelect ops = true) (hf : Region.free md ops listed i = true) (hr : (Region.ready md ops listed).contains i = true) (hiL : (i != L) = true) (hL : waitsFor md ops L i = true) (hun : listed.getD L true = false) (hw : Region.wanted { dst := dst, op := op, type := ty, pos := pos, after := aft, guard := gd } (yielded ops a.tmps) = true)
    (hy : ∀ w, S w → (execOp a.eval { dst := dst, op := op, type := ty, pos := pos, after := aft, guard := gd }).run P w = .ok (.value v) w) (hS : S w)
    (h : wpAnyL P md ops (NoPanic Q) S L fuel (listed.setIfInBounds i true) (a.put dst v) w) : wpAnyL P md ops (NoPanic Q) S L (fuel + 1) listed a w :=
  wpAnyL_first hi (Region.noSelect_spec hs) (fun _ _ _ h => h) (by simpa using hiL) (waitsFor_spec hL) fuel listed a w hun (Region.free_spec hi hf) (by simpa using hr) (.inl ⟨hw, hy⟩) hS h

theorem regL_takeP {i : Nat} {dst : Option Tmp} {op : Op} {ty : TypeId} {pos : String} {aft : Array Edge} {gd : Option (Nat × Bool)} {v : Value} {fuel : Nat} {listed : Array Bool} {a : Act} {w : World} (hi : ops[i]? = some { dst := dst, op := op, type := ty, pos := pos, after := aft, guard := gd })
    (hs : Region.noSelect ops = true) (hf : Region.free md ops listed i = true) (hr : (Region.ready md ops listed).contains i = true) (hiL : (i != L) = true) (hw : Region.wanted { dst := dst, op := op, type := ty, pos := pos, after := aft, guard := gd } (yielded ops a.tmps) = true)
    (hy : ∀ w, (execOp a.eval { dst := dst, op := op, type := ty, pos := pos, after := aft, guard := gd }).run P w = .ok (.value v) w) (hS : listed.getD L true = false → S w)
    (h : wpAnyL P md ops (NoPanic Q) S L fuel (listed.setIfInBounds i true) (a.put dst v) w) : wpAnyL P md ops (NoPanic Q) S L (fuel + 1) listed a w :=
  wpAnyL_firstP hi (Region.noSelect_spec hs) (fun _ _ _ h => h) (by simpa using hiL) fuel listed a w (Region.free_spec hi hf) (by simpa using hr) (.inl ⟨hw, fun w _ => hy w⟩) hS h
theorem regL_op {i : Nat} {dst : Option Tmp} {op : Op} {ty : TypeId} {pos : String} {aft : Array Edge} {gd : Option (Nat × Bool)} {fuel : Nat} {listed : Array Bool} {a : Act} {w : World} (hi : ops[i]? = some { dst := dst, op := op, type := ty, pos := pos, after := aft, guard := gd })
    (hr : Region.ready md ops listed = [i]) (hw : Region.wanted { dst := dst, op := op, type := ty, pos := pos, after := aft, guard := gd } (yielded ops a.tmps) = true)
    (h : Oper.wp P { dst := dst, op := op, type := ty, pos := pos, after := aft, guard := gd } a w (fun a' w' => ((listed.setIfInBounds i true).getD L true = false → S w') ∧ wpAnyL P md ops (NoPanic Q) S L fuel (listed.setIfInBounds i true) a' w') (NoPanic Q)) : wpAnyL P md ops (NoPanic Q) S L (fuel + 1) listed a w := by
  refine ⟨fun h0 => absurd (hr ▸ h0) (by simp), hr ▸ ?_⟩
  intro j hj
  obtain rfl : j = i := by simpa using hj
  unfold wpOp
  simp only [hi, hw, if_true]
  exact .inl h
theorem regL_run {i : Nat} {dst : Option Tmp} {op : Op} {ty : TypeId} {pos : String} {aft : Array Edge} {gd : Option (Nat × Bool)} {fuel : Nat} {listed : Array Bool} {a : Act} {w w' : World} {v : Value} (hi : ops[i]? = some { dst := dst, op := op, type := ty, pos := pos, after := aft, guard := gd })
    (hr : Region.ready md ops listed = [i]) (hw : Region.wanted { dst := dst, op := op, type := ty, pos := pos, after := aft, guard := gd } (yielded ops a.tmps) = true)
    (hrun : (execOp a.eval { dst := dst, op := op, type := ty, pos := pos, after := aft, guard := gd }).run P w = .ok (.value v) w') (hS : (listed.setIfInBounds i true).getD L true = false → S w')
    (h : wpAnyL P md ops (NoPanic Q) S L fuel (listed.setIfInBounds i true) (a.put dst v) w') : wpAnyL P md ops (NoPanic Q) S L (fuel + 1) listed a w := by
  refine regL_op hi hr hw ?_
  unfold Oper.wp
  rw [hrun]
  exact ⟨hS, h⟩
theorem regL_unit {i : Nat} {dst : Option Tmp} {op : Op} {ty : TypeId} {pos : String} {aft : Array Edge} {gd : Option (Nat × Bool)} {fuel : Nat} {listed : Array Bool} {a : Act} {w w' : World} (hi : ops[i]? = some { dst := dst, op := op, type := ty, pos := pos, after := aft, guard := gd })
    (hr : Region.ready md ops listed = [i]) (hw : Region.wanted { dst := dst, op := op, type := ty, pos := pos, after := aft, guard := gd } (yielded ops a.tmps) = true)
    (hrun : (execOp a.eval { dst := dst, op := op, type := ty, pos := pos, after := aft, guard := gd }).run P w = .ok .skip w') (hS : (listed.setIfInBounds i true).getD L true = false → S w')
    (h : wpAnyL P md ops (NoPanic Q) S L fuel (listed.setIfInBounds i true) (a.put dst undef) w') : wpAnyL P md ops (NoPanic Q) S L (fuel + 1) listed a w := by
  refine regL_op hi hr hw ?_
  unfold Oper.wp
  rw [hrun]
  exact ⟨hS, h⟩
theorem regL_last {i : Nat} {dst : Option Tmp} {op : Op} {ty : TypeId} {pos : String} {aft : Array Edge} {gd : Option (Nat × Bool)} {fuel : Nat} {listed : Array Bool} {a : Act} {w w' : World} (hi : ops[i]? = some { dst := dst, op := op, type := ty, pos := pos, after := aft, guard := gd })
    (hr : Region.ready md ops listed = [i]) (hl : (listed.setIfInBounds i true).getD L true = true) (hw : Region.wanted { dst := dst, op := op, type := ty, pos := pos, after := aft, guard := gd } (yielded ops a.tmps) = true)
    (hrun : (execOp a.eval { dst := dst, op := op, type := ty, pos := pos, after := aft, guard := gd }).run P w = .ok .skip w')
    (h : wpAnyL P md ops (NoPanic Q) S L fuel (listed.setIfInBounds i true) (a.put dst undef) w') : wpAnyL P md ops (NoPanic Q) S L (fuel + 1) listed a w :=
  regL_unit hi hr hw hrun (fun h => by rw [hl] at h; cases h) h
theorem regL_call (hK : Keeps S) {i : Nat} {dst : Option Tmp} {op : Op} {ty : TypeId} {pos : String} {aft : Array Edge} {gd : Option (Nat × Bool)} {fuel : Nat} {listed : Array Bool} {a : Act} {w : World} {f : FuncId} {args : Array Value} {R : Value → World → Prop} (hi : ops[i]? = some { dst := dst, op := op, type := ty, pos := pos, after := aft, guard := gd })
    (hr : Region.ready md ops listed = [i]) (hw : Region.wanted { dst := dst, op := op, type := ty, pos := pos, after := aft, guard := gd } (yielded ops a.tmps) = true) (hrun : (execOp a.eval { dst := dst, op := op, type := ty, pos := pos, after := aft, guard := gd }).run P w = .ok (.enter f args) w) (hS : S w)
    (hc : Calls P f args w fun e w' => ∃ v, e = .returned v ∧ R v w' ∧ Below w.heap.size w w') (hR : ∀ v, Keeps (R v))
    (h : ∀ v w', Keeps (fun w => S w ∧ R v w) → R v w' → (S w' ∧ R v w') → wpAnyL P md ops (NoPanic Q) (fun w => S w ∧ R v w) L fuel (listed.setIfInBounds i true) (a.put dst v) w') : wpAnyL P md ops (NoPanic Q) S L (fuel + 1) listed a w := by
  refine regL_op hi hr hw ?_
  unfold Oper.wp
  rw [hrun]
  refine hc.mono ?_
  rintro e w' ⟨v, rfl, hv, hb⟩
  have hS' := hK _ _ hS hb
  exact ⟨fun _ => hS', wpAnyL_mono (fun _ h => h.1) _ _ _ _ (h v w' (hK.and (hR v)) hv ⟨hS', hv⟩)⟩
theorem regL_callg {i : Nat} {dst : Option Tmp} {op : Op} {ty : TypeId} {pos : String} {aft : Array Edge} {gd : Option (Nat × Bool)} {fuel : Nat} {listed : Array Bool} {a : Act} {w : World} {f : FuncId} {args : Array Value} {R : Value → World → Prop} (hi : ops[i]? = some { dst := dst, op := op, type := ty, pos := pos, after := aft, guard := gd })
    (hr : Region.ready md ops listed = [i]) (hw : Region.wanted { dst := dst, op := op, type := ty, pos := pos, after := aft, guard := gd } (yielded ops a.tmps) = true) (hrun : (execOp a.eval { dst := dst, op := op, type := ty, pos := pos, after := aft, guard := gd }).run P w = .ok (.enter f args) w)
    (hc : Calls P f args w fun e w' => ∃ v, e = .returned v ∧ R v w')
    (h : ∀ v w', R v w' → S w' ∧ wpAnyL P md ops (NoPanic Q) S L fuel (listed.setIfInBounds i true) (a.put dst v) w') : wpAnyL P md ops (NoPanic Q) S L (fuel + 1) listed a w := by
  refine regL_op hi hr hw ?_
  unfold Oper.wp
  rw [hrun]
  refine hc.mono ?_
  rintro e w' ⟨v, rfl, hv⟩
  exact ⟨fun _ => (h v w' hv).1, (h v w' hv).2⟩
theorem wpAnyL_done {listed : Array Bool} {a : Act} {w : World} (hr : Region.ready md ops listed = []) (h : Q .normal a w) :
    ∀ fuel, wpAnyL P md ops Q S L fuel listed a w
  | 0 => ⟨hr, h⟩
  | _ + 1 => ⟨fun _ => h, by rw [hr]; simp⟩
end
end Go.Proofs.YtabaomacfijppaaGreat
