/-
  Of the document's side of layer 5: Name, blocked, find, used, within.
-/
import Derived.Test.YtjjhaahlinbpdaaFiNames
import Derived.Test.YtjjhaahlinbpdaaFiRef1
import Derived.Test.YtjjhaahlinbpdaaMathFi2
import Derived.Test.YtjjhaahlinbpdaaRmRef
namespace Go.Proofs.Ytjjhaahlinbpdaa
open Go.RowKit
set_option linter.unusedVariables false
set_option linter.unusedSimpArgs false

theorem rname_any (s : List UInt8) (w : World) : Calls Try.prog 61 #[.string (bs s)] w fun e w' => e = .returned (.bool (nameF s)) ∧ Below w.heap.size w w' := by
  have hbs := bs_size s
  have HE := hide (show nameF s = (decide ((1 : Int) ≤ s.length) && decide ((s.length : Int) ≤ 16)) by
    unfold nameF
    congr 1 <;> exact decide_eq_decide.2 (by omega))
  generalize s.length = n at *
  by_cases h1 : 1 ≤ n
  · have h1' : (1 : Int) ≤ n := by omega
    by_cases h2 : n ≤ 16
    · have h2' : (n : Int) ≤ 16 := by omega
      go_enter Try.func61, Try.ntmps61
      go_wp2
      go_ret
      exact ⟨by rw [HE.out]; simp [h1', h2'], Below.refl _ _⟩
    · have h2' : decide ((n : Int) ≤ 16) = false := by simpa using (by omega : ¬ (n : Int) ≤ 16)
      go_enter Try.func61, Try.ntmps61
      go_wp2
      go_ret
      exact ⟨by rw [HE.out, h2']; simp, Below.refl _ _⟩
  · have h1' : decide ((1 : Int) ≤ n) = false := by simpa using (by omega : ¬ (1 : Int) ≤ n)
    go_enter Try.func61, Try.ntmps61
    go_wp2
    go_ret
    exact ⟨by rw [HE.out, h1']; simp, Below.refl _ _⟩

theorem rblocked_any (B : Int) (w : World) : Calls Try.prog 62 #[.int .i64 B] w fun e w' => e = .returned (.bool (decide (blkP B))) ∧ Below w.heap.size w w' := by
  have HE := hide (show decide (blkP B) = (decide (34 < B) && decide (B ≤ 4096)) by unfold blkP; exact Bool.decide_and ..)
  by_cases h1 : 34 < B
  · by_cases h2 : B ≤ 4096
    · go_enter Try.func62, Try.ntmps62
      go_wp2
      go_ret
      exact ⟨by rw [HE.out]; simp [h1, h2], Below.refl _ _⟩
    · have h2' : decide (B ≤ 4096) = false := by simpa using h2
      go_enter Try.func62, Try.ntmps62
      go_wp2
      go_ret
      exact ⟨by rw [HE.out, h2']; simp, Below.refl _ _⟩
  · have h1' : decide (34 < B) = false := by simpa using h1
    go_enter Try.func62, Try.ntmps62
    go_wp2
    go_ret
    exact ⟨by rw [HE.out, h1']; simp, Below.refl _ _⟩

set_option maxHeartbeats 1000000 in
set_option maxRecDepth 100000 in
theorem rfind_any (a : Option Addr) (n c : Nat) (fs : List Fl) (s : List UInt8) (w : World) (hrd : RdF w (.slice a n c) fs) (hn : n = fs.length) (hnl : n ≤ 1000) :
    Calls Try.prog 55 #[.agg #[.slice a n c], .string (bs s)] w fun e w' => ((e = .returned (.int .i64 (-1)) ∧ isF fs s = false) ∨ ∃ t, ∃ h : t < fs.length, e = .returned (.int .i64 t) ∧ (fs[t]).1 = s ∧ isF fs s = true) ∧ Below w.heap.size w w' := by
  have HR := hide hrd
  have HN := hide hn
  obtain ⟨W0, hW0⟩ : ∃ W0, W0 = w.alloc (.cells #[.slice a n c] 25) := ⟨_, rfl⟩
  have hb0 : Below w.heap.size w W0 := by rw [hW0]; exact (Below.refl _ _).alloc (Nat.le_refl _) _
  have HD0 := hide (show DirAt W0 w.heap.size (.slice a n c) by rw [hW0]; exact DirAt.new w _)
  have HB0 := hide hb0
  clear hrd hn hb0
  go_enter Try.func55, Try.ntmps55
  go_wp2
  rw [← hW0]
  clear hW0
  go_loopw [5] (fun i wr => ∃ k : Nat, k ≤ n ∧ i = .int .i64 k ∧ Hid (∀ f ∈ fs.take k, f.1 ≠ s) ∧ Below W0.heap.size W0 wr) (fun i _ => n - (intOf i).toNat)
  case atStart => exact ⟨0, Nat.zero_le _, rfl, hide (by simp), Below.refl _ _⟩
  case round =>
    obtain ⟨k, hk, rfl, hno, hbel⟩ := hrel
    have hda := (HD0.out.carry hbel).cell
    have hbw : Below w.heap.size w wr := HB0.out.trans (hbel.mono HB0.out.size)
    by_cases hlt : k < n
    · have hlt' : (k : Int) < n := by omega
      have hkl : k < fs.length := by have := HN.out; omega
      have HT := hide (take_snocF fs k hkl)
      have hw1 : wrap64 ((k : Int) + 1) = (k : Int) + 1 := wrapS (by omega)
      obtain ⟨b, off, a2, c2, rfl, q0, q1, q2⟩ := HR.out.atB hbw k hkl
      clear q1 q2
      obtain ⟨f, hf⟩ : ∃ f, f = fs[k] := ⟨_, rfl⟩
      rw [← hf] at q0 HT
      have HF := hide hf
      clear hf
      obtain ⟨x, l⟩ := f
      simp only at q0
      by_cases g1 : x = s
      · have g1' : ((bs x).toList == (bs s).toList) = true := by rw [eq_ofN, g1]; simp
        have HG := hide g1
        clear g1
        go_wp2
        go_ret
        refine ⟨.inr ⟨k, hkl, rfl, by rw [← HF.out]; exact HG.out, ?_⟩, hbw⟩
        exact (isF_iff fs s).2 ⟨l, by rw [← HG.out, HF.out]; exact List.getElem_mem hkl⟩
      have g1' : ((bs x).toList == (bs s).toList) = false := by rw [eq_ofN]; simpa using g1
      have HE := hide (show ∀ f ∈ fs.take (k + 1), f.1 ≠ s by
        rw [HT.out]
        intro f hf
        rcases List.mem_append.1 hf with hf | hf
        · exact hno.out f hf
        · obtain rfl : f = (x, l) := by simpa using hf
          exact g1)
      clear g1
      go_wp2
      go_roundw
      case rel => exact ⟨k + 1, by omega, rfl, HE, hbel⟩
      case measure => simp only [intOf]; omega
    · have hd : decide ((k : Int) < n) = false := by simpa using (by omega : ¬ (k : Int) < n)
      have e : k = fs.length := by have := HN.out; omega
      rw [e, List.take_length] at hno
      clear e
      go_wp2
      go_ret
      refine ⟨.inl ⟨rfl, ?_⟩, hbw⟩
      cases hq : isF fs s with
      | false => rfl
      | true =>
        obtain ⟨l, hl⟩ := (isF_iff fs s).1 hq
        exact absurd rfl (hno.out _ hl)

set_option maxHeartbeats 1000000 in
set_option maxRecDepth 100000 in
theorem rused_any (a : Option Addr) (n c : Nat) (fs : List Fl) (w : World) (hrd : RdF w (.slice a n c) fs) (hn : n = fs.length) (hnl : n ≤ 1000) (hu : (usedF fs).length ≤ 1000000) :
    Calls Try.prog 56 #[.agg #[.slice a n c]] w fun e w' => ∃ v, e = .returned v ∧ OwE w' w.heap.size v (usedF fs) ∧ Below w.heap.size w w' := by
  have HR := hide hrd
  have HN := hide hn
  have HU := hide hu
  obtain ⟨W0, hW0⟩ : ∃ W0, W0 = w.alloc (.cells #[.slice a n c] 25) := ⟨_, rfl⟩
  have hb0 : Below w.heap.size w W0 := by rw [hW0]; exact (Below.refl _ _).alloc (Nat.le_refl _) _
  have HD0 := hide (show DirAt W0 w.heap.size (.slice a n c) by rw [hW0]; exact DirAt.new w _)
  have HB0 := hide hb0
  clear hrd hn hb0 hu
  go_enter Try.func56, Try.ntmps56
  go_wp2
  rw [← hW0]
  clear hW0
  go_loopw [3, 4] (fun v i wr => ∃ k : Nat, k ≤ n ∧ i = .int .i64 k ∧ Hid (OwE wr W0.heap.size v (usedF (fs.take k))) ∧ Below W0.heap.size W0 wr) (fun _ i _ => n - (intOf i).toNat)
  case atStart => exact ⟨0, Nat.zero_le _, rfl, hide (by simpa [usedF] using OwE.nil _ _), Below.refl _ _⟩
  case round =>
    obtain ⟨k, hk, rfl, hown, hbel⟩ := hrel
    have hda := (HD0.out.carry hbel).cell
    have hbw : Below w.heap.size w wr := HB0.out.trans (hbel.mono HB0.out.size)
    by_cases hlt : k < n
    · have hlt' : (k : Int) < n := by omega
      have hkl : k < fs.length := by have := HN.out; omega
      have HT := hide (usedF_take fs k hkl)
      have HUL := hide (show (usedF (fs.take k)).length + (fs[k]).2.length ≤ 1000000 by
        have h1 := HU.out
        have h2 := (used_sub (List.take_sublist (k + 1) fs)).length_le
        rw [usedF_take fs k hkl, List.length_append] at h2
        omega)
      have hw1 : wrap64 ((k : Int) + 1) = (k : Int) + 1 := wrapS (by omega)
      obtain ⟨b, off, a2, c2, rfl, q0, q1, q2⟩ := HR.out.atB hbw k hkl
      clear q0
      obtain ⟨f, hf⟩ : ∃ f, f = fs[k] := ⟨_, rfl⟩
      rw [← hf] at q1 q2 HT HUL
      clear hf
      obtain ⟨x, l⟩ := f
      simp only at q1 q2 HT HUL
      obtain ⟨p, hp⟩ : ∃ p, p = l.length := ⟨_, rfl⟩
      rw [← hp] at q1 q2
      obtain ⟨g, cc, w9, hrun, ho9, hb9⟩ := app_exN hown.out hbel.size (q2.carry hbw) hp (by have := HUL.out; omega)
      have HO9 := hide ho9
      have HB9 := hide (hbel.trans hb9)
      obtain ⟨av, cv, rfl⟩ := hown.out.form
      clear ho9 hb9 hown HUL hp q2
      rw [← HT.out] at hrun HO9
      clear HT
      generalize (usedF (fs.take k)).length = fl at *
      generalize (usedF (fs.take (k + 1))).length = gl at *
      go_wp2_with (at_builtin; refine wpList_runappE rfl (.tmp 12) (.tmp 18) 32 rfl rfl rfl rfl hrun ?_)
      go_roundw
      case rel => exact ⟨k + 1, by omega, rfl, HO9, HB9.out⟩
      case measure => simp only [intOf]; omega
    · have hd : decide ((k : Int) < n) = false := by simpa using (by omega : ¬ (k : Int) < n)
      have e : k = fs.length := by have := HN.out; omega
      rw [e, List.take_length] at hown
      clear e
      go_wp2
      go_ret
      exact ⟨_, rfl, hown.out.mono HB0.out.size, hbw⟩

set_option maxHeartbeats 1000000 in
set_option maxRecDepth 100000 in
theorem rwithin_any (a : Option Addr) (n c : Nat) (l : List Ex) (B : Int) (w : World) (hrd : RdE w (.slice a n c) l) (hn : n = l.length) (hwf : ∀ x ∈ l, wfX x) :
    Calls Try.prog 57 #[.slice a n c, .int .i64 B] w fun e w' => e = .returned (.bool (decide (extP l B))) ∧ Below w.heap.size w w' := by
  have hck := rCheck_ext a n c l w hrd hn hwf
  by_cases g1 : chkX l = 0
  case neg =>
    have HE := hide (show decide (extP l B) = false by simpa using fun h : extP l B => absurd h.1 g1)
    obtain ⟨z, hz⟩ : ∃ z, z = chkX l := ⟨_, rfl⟩
    rw [← hz] at hck g1
    have g1' : (z == 0) = false := by simpa using g1
    clear hz hrd hn hwf
    go_enter Try.func57, Try.ntmps57
    go_wp2_with fail
    refine hck.mono ?_
    rintro e w1 ⟨rfl, hb1⟩
    go_wp2
    go_ret
    exact ⟨by rw [HE.out]; rfl, hb1⟩
  have HA := hide (chkX_ok g1).1
  have HC := hide g1
  rw [g1] at hck
  have hnl : n ≤ 4096 := hn ▸ (allX_ok HA.out).1
  have HR := hide hrd
  have HN := hide hn
  clear hrd hn hwf g1
  go_enter Try.func57, Try.ntmps57
  go_wp2_with fail
  refine hck.mono ?_
  rintro e w1 ⟨rfl, hb1⟩
  clear hck
  go_wp2
  go_loopw [5] (fun i wr => ∃ k : Nat, k ≤ n ∧ i = .int .i64 k ∧ Hid (∀ x ∈ l.take k, 34 ≤ x.1 ∧ x.1 + x.2 ≤ B) ∧ Below w.heap.size w wr) (fun i _ => n - (intOf i).toNat)
  case atStart => exact ⟨0, Nat.zero_le _, rfl, hide (by simp), hb1⟩
  case round =>
    obtain ⟨k, hk, rfl, hyes, hbel⟩ := hrel
    clear hb1
    by_cases hlt : k < n
    · have hlt' : (k : Int) < n := by omega
      have hkl : k < l.length := by have := HN.out; omega
      have HT := hide (take_snocF l k hkl)
      have hw1 : wrap64 ((k : Int) + 1) = (k : Int) + 1 := wrapS (by omega)
      obtain ⟨b, off, rfl, q0, q1⟩ := (HR.out.carry hbel).at k hkl
      obtain ⟨z1, z2, z3⟩ := (allX_ok HA.out).2 _ (List.getElem_mem hkl)
      have HIN := hide (List.getElem_mem hkl)
      obtain ⟨x, hx⟩ : ∃ x, x = l[k] := ⟨_, rfl⟩
      rw [← hx] at q0 q1 HT z1 z2 z3 HIN
      clear hx
      obtain ⟨x, y⟩ := x
      simp only at q0 q1 z1 z2 z3
      have hwi : IntKind.i64.wrap (x + y) = x + y := by rw [IntKind.wrap_i64]; omega
      by_cases g1 : x < 34
      · have HE := hide (show decide (extP l B) = false by
          simp only [decide_eq_false_iff_not]
          intro h
          have := (h.2 _ HIN.out).1
          simp only at this; omega)
        go_wp2
        go_quiet (fail)
        go_wp2
        go_ret
        exact ⟨by rw [HE.out]; rfl, below_drewN hbel _⟩
      have g1' : decide (x < 34) = false := by simpa using g1
      by_cases g2 : B < x + y
      · have HE := hide (show decide (extP l B) = false by
          simp only [decide_eq_false_iff_not]
          intro h
          have := (h.2 _ HIN.out).2
          simp only at this; omega)
        go_wp2
        go_quiet (fail)
        go_wp2
        go_ret
        exact ⟨by rw [HE.out]; rfl, below_drewN hbel _⟩
      have g2' : decide (B < x + y) = false := by simpa using g2
      have HE := hide (show ∀ x ∈ l.take (k + 1), 34 ≤ x.1 ∧ x.1 + x.2 ≤ B by
        rw [HT.out]
        intro f hf
        rcases List.mem_append.1 hf with hf | hf
        · exact hyes.out f hf
        · obtain rfl : f = (x, y) := by simpa using hf
          simp only
          omega)
      go_wp2
      go_quiet (fail)
      go_wp2
      go_roundw
      case rel => exact ⟨k + 1, by omega, rfl, HE, below_drewN hbel _⟩
      case measure => simp only [intOf]; omega
    · have hd : decide ((k : Int) < n) = false := by simpa using (by omega : ¬ (k : Int) < n)
      have e : k = l.length := by have := HN.out; omega
      rw [e, List.take_length] at hyes
      clear e
      have HE := hide (show decide (extP l B) = true from decide_eq_true (⟨HC.out, hyes.out⟩ : extP l B))
      go_wp2
      go_ret
      exact ⟨by rw [HE.out]; rfl, hbel⟩

end Go.Proofs.Ytjjhaahlinbpdaa
