/-
  The document's side of layer 5: Great, SameFile, Same.
-/
import Derived.Test.YtlibnefibeikcaaFiNames
namespace Go.Proofs.Ytlibnefibeikcaa
open Go.RowKit
set_option linter.unusedVariables false
set_option linter.unusedSimpArgs false

set_option maxHeartbeats 1000000 in
set_option maxRecDepth 100000 in
theorem sameFile_ref (s t : List UInt8) (a1 : Option Addr) (n1 c1 : Nat) (a2 : Option Addr) (n2 c2 : Nat) (l k : List Ex) (w : World) (h1 : RdE w (.slice a1 n1 c1) l) (hn1 : n1 = l.length) (h2 : RdE w (.slice a2 n2 c2) k) (hn2 : n2 = k.length) :
    Calls Try.prog 43 #[.agg #[.string (bs s), .slice a1 n1 c1], .agg #[.string (bs t), .slice a2 n2 c2]] w fun e w' => e = .returned (.bool (decide ((s, l) = (t, k)))) ∧ Below w.heap.size w w' := by
  obtain ⟨W0, hW0⟩ : ∃ W0, W0 = (w.alloc (.cells #[.string (bs s), .slice a1 n1 c1] 43)).alloc (.cells #[.string (bs t), .slice a2 n2 c2] 43) := ⟨_, rfl⟩
  have hb0 : Below w.heap.size w W0 := by rw [hW0]; exact ((Below.refl _ _).alloc (Nat.le_refl _) _).alloc (by simp) _
  have hsm := same_ext a1 a2 n1 c1 n2 c2 l k W0 (h1.carry hb0) (h2.carry hb0) hn1 hn2
  have HB0 := hide hb0
  clear h1 hn1 h2 hn2 hb0
  by_cases e : s = t
  · have x1 : ((bs s).toList == (bs t).toList) = true := by rw [eq_ofN, e]; simp
    have HE := hide (show decide ((s, l) = (t, k)) = decide (l = k) by simp [e])
    clear e
    go_enter Try.func43, Try.ntmps43
    go_wp2_with fail
    rw [← hW0]
    refine hsm.mono ?_
    rintro e w1 ⟨rfl, hb1⟩
    have HB1 := hide (show Below w.heap.size w w1 from HB0.out.trans (hb1.mono HB0.out.size))
    clear hsm hb1 hW0
    obtain ⟨r, hr⟩ : ∃ r, r = decide (l = k) := ⟨_, rfl⟩
    rw [← hr] at HE ⊢
    clear hr
    go_wp2
    go_ret
    exact ⟨by rw [HE.out]; rfl, HB1.out⟩
  · have x1 : ((bs s).toList == (bs t).toList) = false := by rw [eq_ofN]; simpa using e
    have HE := hide (show decide ((s, l) = (t, k)) = false by simp [e])
    clear e hsm
    go_enter Try.func43, Try.ntmps43
    go_wp2
    go_ret
    exact ⟨by rw [HE.out]; rfl, by rw [← hW0]; exact HB0.out⟩

set_option maxHeartbeats 2000000 in
set_option maxRecDepth 100000 in
theorem same_ref (a : Option Addr) (n c : Nat) (fs : List Fl) (a' : Option Addr) (m c' : Nat) (gs : List Fl) (w : World) (h1 : RdF w (.slice a n c) fs) (hn : n = fs.length) (h2 : RdF w (.slice a' m c') gs) (hm : m = gs.length) :
    Calls Try.prog 24 #[.agg #[.slice a n c], .agg #[.slice a' m c']] w fun e w' => e = .returned (.bool (decide (fs = gs))) ∧ Below w.heap.size w w' := by
  have hnb : n ≤ maxLen := hn ▸ h1.len_le
  unfold maxLen at hnb
  have H1 := hide h1
  have H2 := hide h2
  have HN := hide hn
  have HM := hide hm
  obtain ⟨W0, hW0⟩ : ∃ W0, W0 = (w.alloc (.cells #[.slice a n c] 32)).alloc (.cells #[.slice a' m c'] 32) := ⟨_, rfl⟩
  have hb1 : Below w.heap.size w (w.alloc (.cells #[.slice a n c] 32)) := (Below.refl _ _).alloc (Nat.le_refl _) _
  have hb0 : Below w.heap.size w W0 := by rw [hW0]; exact hb1.alloc (by simp) _
  have HD0 := hide (show DirAt W0 w.heap.size (.slice a n c) by
    rw [hW0]
    exact (DirAt.new w (.slice a n c)).carry ((Below.refl _ _).alloc (Nat.le_refl _) _))
  have HE0 := hide (show DirAt W0 (w.heap.size + 1) (.slice a' m c') by
    have := DirAt.new (w.alloc (.cells #[.slice a n c] 32)) (.slice a' m c')
    rw [hW0]; simpa using this)
  have HB0 := hide hb0
  clear h1 h2 hn hm hb0 hb1
  by_cases g1 : n = m
  · subst g1
    go_enter Try.func24, Try.ntmps24
    go_wp2
    rw [← hW0]
    clear hW0
    go_loopw [5] (fun i wr => ∃ k : Nat, k ≤ n ∧ i = .int .i64 k ∧ Hid (fs.take k = gs.take k) ∧ Below W0.heap.size W0 wr) (fun i _ => n - (intOf i).toNat)
    case atStart => exact ⟨0, Nat.zero_le _, rfl, hide rfl, Below.refl _ _⟩
    case round =>
      obtain ⟨k, hk, rfl, hall, hbel⟩ := hrel
      have hdir := (HD0.out.carry hbel).cell
      have hdir2 := (HE0.out.carry hbel).cell
      have hbw : Below w.heap.size w wr := HB0.out.trans (hbel.mono HB0.out.size)
      by_cases hlt : k < n
      · have hlt' : (k : Int) < n := by omega
        have hkl : k < fs.length := by have := HN.out; omega
        have hkg : k < gs.length := by have := HM.out; omega
        have HT := hide (take_snocF fs k hkl)
        have HU := hide (take_snocF gs k hkg)
        obtain ⟨b, off, a2, c2, rfl, q0, q1, q2⟩ := H1.out.atB hbw k hkl
        obtain ⟨b', off', a3, c3, rfl, p0, p1, p2⟩ := H2.out.atB hbw k hkg
        have HX := hide (show fs[k] ≠ gs[k] → decide (fs = gs) = false by
          intro h
          simp only [decide_eq_false_iff_not]
          rintro rfl
          exact h rfl)
        obtain ⟨f, hf⟩ : ∃ f, f = fs[k] := ⟨_, rfl⟩
        obtain ⟨g, hg⟩ : ∃ g, g = gs[k] := ⟨_, rfl⟩
        rw [← hf] at q0 q1 q2 HT HX
        rw [← hg] at p0 p1 p2 HU HX
        clear hf hg
        obtain ⟨s, l⟩ := f
        obtain ⟨t, l'⟩ := g
        simp only at q0 q1 q2 p0 p1 p2
        obtain ⟨m1, hm1⟩ : ∃ m1, m1 = l.length := ⟨_, rfl⟩
        obtain ⟨m2, hm2⟩ : ∃ m2, m2 = l'.length := ⟨_, rfl⟩
        rw [← hm1] at q1 q2
        rw [← hm2] at p1 p2
        have hsf := fun wx (hbx : Below w.heap.size w wx) => sameFile_ref s t a2 m1 c2 a3 m2 c3 l l' wx (q2.carry hbx) hm1 (p2.carry hbx) hm2
        obtain ⟨r, hr⟩ : ∃ r, r = decide ((s, l) = (t, l')) := ⟨_, rfl⟩
        simp only [← hr] at hsf
        have HR := hide hr
        have HSF := hide hsf
        clear hm1 hm2 q2 p2 hsf hr
        obtain ⟨S, eS⟩ : ∃ S : World → Prop, S = fun wx => (wx.cell? ⟨w.heap.size, 0, none⟩ = some (.slice (some ⟨b, off, none⟩) n c) ∧ wx.cell? ⟨w.heap.size + 1, 0, none⟩ = some (.slice (some ⟨b', off', none⟩) n c')) ∧ (wx.cell? ⟨b, off + k * 2, none⟩ = some (.string (bs s)) ∧ wx.cell? ⟨b, off + k * 2 + 1, none⟩ = some (.slice a2 m1 c2)) ∧ wx.cell? ⟨b', off' + k * 2, none⟩ = some (.string (bs t)) ∧ wx.cell? ⟨b', off' + k * 2 + 1, none⟩ = some (.slice a3 m2 c3) := ⟨_, rfl⟩
        have hS0 : S wr := by rw [eS]; exact ⟨⟨hdir, hdir2⟩, ⟨q0, q1⟩, p0, p1⟩
        have hK : Keeps S := by rw [eS]; exact ((keeps_cell _ _).and (keeps_cell _ _)).and (((keeps_cell _ _).and (keeps_cell _ _)).and ((keeps_cell _ _).and (keeps_cell _ _)))
        go_wp2
        rw [eS] at hK hS0
        have HKS := hide hK
        clear eS hdir hdir2 q0 q1 p0 p1
        refine reg_begin hK (by kernel_rfl) hS0 ?_
        intro hS
        refine reg_plan [0, 1, 2, 3, 4, 5, 6, 7, 8, 9] (fuel := 2) (a' := ?qa1) (by kernel_rfl) (by kernel_rfl) (by kernel_rfl) ?qp1 hS ?qn1
        case qp1 =>
          iterate 10 (apply Yl.cons rfl rfl; focus (rintro wx ⟨⟨x1, x2⟩, ⟨x3, x4⟩, x5, x6⟩; go_simp; all_goals (with_reducible rfl)); try simp only [Act.put, List.setIfInBounds_toArray, List.set_cons_zero, List.set_cons_succ])
          exact Yl.nil
        try simp only [Act.put, List.setIfInBounds_toArray, List.set_cons_zero, List.set_cons_succ]
        refine reg_callg (i := 10) (R := fun v wx => v = .bool r ∧ Below wr.heap.size wr wx) rfl (by kernel_rfl) (by rfl) (by go_simp) ((HSF.out wr.drew hbw.drew).mono fun e wx ⟨h1, h2⟩ => ⟨_, h1, rfl, ((Below.refl wr.heap.size wr).drew).trans h2⟩) ?_
        rintro v30 w30 ⟨rfl, hb30⟩
        refine ⟨HKS.out _ _ hS0 hb30, ?_⟩
        have hS30 := HKS.out _ _ hS0 hb30
        have hb30' : Below W0.heap.size W0 w30 := hbel.trans (hb30.mono hbel.size)
        try simp only [Act.put, List.setIfInBounds_toArray, List.set_cons_zero, List.set_cons_succ]
        refine reg_plan [11] (fuel := 0) (a' := ?qa2) (by kernel_rfl) (by kernel_rfl) (by kernel_rfl) ?qp2 hS30 ?qn2
        case qp2 =>
          iterate 1 (apply Yl.cons rfl rfl; focus (rintro wx ⟨⟨x1, x2⟩, ⟨x3, x4⟩, x5, x6⟩; go_simp; all_goals (with_reducible rfl)); try simp only [Act.put, List.setIfInBounds_toArray, List.set_cons_zero, List.set_cons_succ])
          exact Yl.nil
        try simp only [Act.put, List.setIfInBounds_toArray, List.set_cons_zero, List.set_cons_succ]
        refine wpAnyH_done (by kernel_rfl) ?_ _
        refine NoPanic.normal ?_
        clear hS30 hS hK hS0 HKS hb30
        cases r with
        | true =>
          have e : (s, l) = (t, l') := by have := HR.out; simpa using this.symm
          have HA := hide (show fs.take (k + 1) = gs.take (k + 1) by rw [HT.out, HU.out, hall.out, e])
          clear e
          go_wp2
          go_roundw
          case rel => exact ⟨k + 1, by omega, rfl, HA, hb30'⟩
          case measure => simp only [intOf]; omega
        | false =>
          have HA := hide (HX.out (by have := HR.out; exact of_decide_eq_false this.symm))
          go_wp2
          go_ret
          exact ⟨by rw [HA.out]; rfl, HB0.out.trans (hb30'.mono HB0.out.size)⟩
      · have hd : decide ((k : Int) < n) = false := by simpa using (by omega : ¬ (k : Int) < n)
        have HA := hide (show decide (fs = gs) = true by
          have h := hall.out
          rw [List.take_of_length_le (by have := HN.out; omega), List.take_of_length_le (by have := HM.out; omega)] at h
          simpa using h)
        go_wp2
        go_ret
        exact ⟨by rw [HA.out]; rfl, hbw⟩
  · have HA := hide (show decide (fs = gs) = false by
      simp only [decide_eq_false_iff_not]
      rintro rfl
      exact g1 (HN.out.trans HM.out.symm))
    have g1' : ((n : Int) == (m : Int)) = false := by simp; omega
    go_enter Try.func24, Try.ntmps24
    go_wp2
    all_goals (go_ret; exact ⟨by rw [HA.out]; rfl, by rw [← hW0]; exact HB0.out⟩)

end Go.Proofs.Ytlibnefibeikcaa
