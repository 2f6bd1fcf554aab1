/-
  What files.Same, and the statements' own long and turn do.
-/
import Derived.Test.YtnigdbhjaoeblaaGreatRmKit
import Derived.Test.YtnigdbhjaoeblaaGreatFiRef6
namespace Go.Proofs.YtnigdbhjaoeblaaGreat
open Go.RowKit
set_option linter.unusedVariables false
set_option linter.unusedSimpArgs false

section
variable {P : Program} {md : Region.Mode} {ops : Array Oper} {Q : Exit → Act → World → Prop}
/-- Either of two operations may come up. -/
theorem reg_two {S : World → Prop} {i j : Nat} {fuel : Nat} {listed : Array Bool} {a : Act} {w : World} (hr : Region.ready md ops listed = [i, j])
    (h1 : wpOp P ops (NoPanic Q) i (fun a' w' => S w' ∧ wpAnyH P md ops (NoPanic Q) S fuel (listed.setIfInBounds i true) a' w') a w)
    (h2 : wpOp P ops (NoPanic Q) j (fun a' w' => S w' ∧ wpAnyH P md ops (NoPanic Q) S fuel (listed.setIfInBounds j true) a' w') a w) : wpAnyH P md ops (NoPanic Q) S (fuel + 1) listed a w := by
  refine wpAnyH_all (rs := [i, j]) hr (by simp) ?_
  intro k hk
  rcases List.mem_cons.1 hk with rfl | hk
  · exact h1
  · obtain rfl := List.mem_singleton.1 hk
    exact h2
theorem reg_three {S : World → Prop} {i j k : Nat} {fuel : Nat} {listed : Array Bool} {a : Act} {w : World} (hr : Region.ready md ops listed = [i, j, k])
    (h1 : wpOp P ops (NoPanic Q) i (fun a' w' => S w' ∧ wpAnyH P md ops (NoPanic Q) S fuel (listed.setIfInBounds i true) a' w') a w)
    (h2 : wpOp P ops (NoPanic Q) j (fun a' w' => S w' ∧ wpAnyH P md ops (NoPanic Q) S fuel (listed.setIfInBounds j true) a' w') a w)
    (h3 : wpOp P ops (NoPanic Q) k (fun a' w' => S w' ∧ wpAnyH P md ops (NoPanic Q) S fuel (listed.setIfInBounds k true) a' w') a w) : wpAnyH P md ops (NoPanic Q) S (fuel + 1) listed a w := by
  refine wpAnyH_all (rs := [i, j, k]) hr (by simp) ?_
  intro m hm
  rcases List.mem_cons.1 hm with rfl | hm
  · exact h1
  · rcases List.mem_cons.1 hm with rfl | hm
    · exact h2
    · obtain rfl := List.mem_singleton.1 hm
      exact h3
theorem wop_run {K : Act → World → Prop} {i : Nat} {dst : Option Tmp} {op : Op} {ty : TypeId} {pos : String} {aft : Array Edge} {gd : Option (Nat × Bool)} {a : Act} {w w' : World} {v : Value} (hi : ops[i]? = some { dst := dst, op := op, type := ty, pos := pos, after := aft, guard := gd }) (hw : Region.wanted { dst := dst, op := op, type := ty, pos := pos, after := aft, guard := gd } (yielded ops a.tmps) = true)
    (hrun : (execOp a.eval { dst := dst, op := op, type := ty, pos := pos, after := aft, guard := gd }).run P w = .ok (.value v) w') (h : K (a.put dst v) w') : wpOp P ops Q i K a w := by
  unfold wpOp
  simp only [hi, hw, if_true]
  refine .inl ?_
  unfold Oper.wp
  rw [hrun]
  exact h
theorem wop_callg {K : Act → World → Prop} {i : Nat} {dst : Option Tmp} {op : Op} {ty : TypeId} {pos : String} {aft : Array Edge} {gd : Option (Nat × Bool)} {a : Act} {w : World} {f : FuncId} {args : Array Value} {R : Value → World → Prop} (hi : ops[i]? = some { dst := dst, op := op, type := ty, pos := pos, after := aft, guard := gd }) (hw : Region.wanted { dst := dst, op := op, type := ty, pos := pos, after := aft, guard := gd } (yielded ops a.tmps) = true)
    (hrun : (execOp a.eval { dst := dst, op := op, type := ty, pos := pos, after := aft, guard := gd }).run P w = .ok (.enter f args) w) (hc : Calls P f args w fun e w' => ∃ v, e = .returned v ∧ R v w') (h : ∀ v w', R v w' → K (a.put dst v) w') : wpOp P ops (NoPanic Q) i K a w := by
  unfold wpOp
  simp only [hi, hw, if_true]
  refine .inl ?_
  unfold Oper.wp
  rw [hrun]
  exact hc.mono fun e w' ⟨v, he, hv⟩ => by subst he; exact h v w' hv
end

theorem region_cut {P : Program} {id : Nat} {ops : Array Oper} {Q : Exit → Act → World → Prop} {a : Act} {w : World} {α : Type} (F : α → Act → Act) (R : α → World → Prop) (h : (Code.region id ops true).wp P (fun e a' w' => e = .normal ∧ ∃ x, a' = F x a ∧ R x w') a w) (k : ∀ x w', R x w' → Q .normal (F x a) w') : (Code.region id ops true).wp P Q a w :=
  Code.wp_mono (fun e a' w' ⟨h1, x, h2, h3⟩ => by subst h1 h2; exact k x w' h3) h

end Go.Proofs.YtnigdbhjaoeblaaGreat
namespace Go.Proofs.YtnigdbhjaoeblaaGreat
open Go.RowKit
set_option linter.unusedVariables false
set_option linter.unusedSimpArgs false

theorem FileAt.name {w : World} {q : Nat} {s : ByteArray} {y : Value} (h : FileAt w q s y) (u : ByteArray) : FileAt (w.setCell ⟨q, 0, none⟩ (.string u)) q u y := by
  have := heap_setCell_same w q 0 _ 92 (.string u) h
  unfold FileAt
  rw [this]; rfl
end Go.Proofs.YtnigdbhjaoeblaaGreat
namespace Go.Proofs.YtnigdbhjaoeblaaGreat
open Go.RowKit
set_option linter.unusedVariables false
set_option linter.unusedSimpArgs false

set_option maxHeartbeats 1000000 in
set_option maxRecDepth 100000 in
theorem equal_ext (a b : Option Addr) (n c m d : Nat) (l k : List Ex) (w : World) (h1 : RdE w (.slice a n c) l) (h2 : RdE w (.slice b m d) k) (hn : n = l.length) (hm : m = k.length) :
    Calls Tryz.prog 242 #[.slice a n c, .slice b m d] w fun e w' => e = .returned (.bool (decide (l = k))) ∧ Below w.heap.size w w' := by
  have hnm : n ≤ maxLen := hn ▸ h1.len_le
  unfold maxLen at hnm
  have H1 := hide h1
  have H2 := hide h2
  have HN := hide hn
  have HM := hide hm
  clear h1 h2 hn hm
  by_cases g1 : n = m
  · subst g1
    go_enter Tryz.func242, Tryz.ntmps242
    go_wp2
    go_loopw [13] (fun i wr => ∃ j : Nat, j ≤ n ∧ i = .int .i64 j ∧ Hid (l.take j = k.take j) ∧ Below w.heap.size w wr) (fun i _ => n - (intOf i).toNat)
    case atStart => exact ⟨0, Nat.zero_le _, rfl, hide (by simp), Below.refl _ _⟩
    case round =>
      obtain ⟨j, hj, rfl, he, hbel⟩ := hrel
      by_cases hlt : j < n
      · have hlt' : (j : Int) < n := by omega
        have hjl : j < l.length := by have := HN.out; omega
        have hjk : j < k.length := by have := HM.out; omega
        obtain ⟨b1, off1, rfl, q0, q1⟩ := (H1.out.carry hbel).at j hjl
        obtain ⟨b2, off2, rfl, p0, p1⟩ := (H2.out.carry hbel).at j hjk
        have hw1 : wrap64 ((j : Int) + 1) = (j : Int) + 1 := by unfold wrap64; omega
        by_cases hx : l[j] = k[j]
        · have HE := hide (show l.take (j + 1) = k.take (j + 1) by rw [take_snoc l j hjl, take_snoc k j hjk, he.out, hx])
          rw [hx] at q0 q1
          clear hx
          go_wp2
          go_quiet (fail)
          go_wp2
          go_roundw
          case rel => exact ⟨j + 1, by omega, rfl, HE, below_drewN hbel _⟩
          case measure => simp only [intOf]; omega
        · have HE := hide (show decide (l = k) = false by
            rw [decide_eq_false_iff_not]
            rintro rfl
            exact hx rfl)
          have hne : ¬ ((l[j]).1 = (k[j]).1 ∧ (l[j]).2 = (k[j]).2) := fun h => hx (Prod.ext h.1 h.2)
          clear hx
          generalize (l[j]).1 = z1 at *
          generalize (l[j]).2 = z2 at *
          generalize (k[j]).1 = z3 at *
          generalize (k[j]).2 = z4 at *
          by_cases hz : z1 = z3
          · subst hz
            have hne1 : ¬ z2 = z4 := fun h => hne ⟨rfl, h⟩
            have hne' : (z2 == z4) = false := by simpa using hne1
            clear hne
            go_wp2
            go_quiet (fail)
            go_wp2
            go_ret
            exact ⟨by rw [HE.out]; rfl, below_drewN hbel _⟩
          · have hne' : (z1 == z3) = false := by simpa using hz
            clear hne
            go_wp2
            go_quiet (fail)
            go_wp2
            go_ret
            exact ⟨by rw [HE.out]; rfl, below_drewN hbel _⟩
      · have hd : decide ((j : Int) < n) = false := by simpa using (by omega : ¬ (j : Int) < n)
        have HE := hide (show decide (l = k) = true by
          rw [decide_eq_true_iff]
          have := he.out
          rwa [List.take_of_length_le (by have := HN.out; omega), List.take_of_length_le (by have := HM.out; omega)] at this)
        go_wp2
        go_ret
        exact ⟨by rw [HE.out]; rfl, hbel⟩
  · have HE := hide (show decide (l = k) = false by
      rw [decide_eq_false_iff_not]
      rintro rfl
      have := HN.out
      have := HM.out
      omega)
    have g1' : ((n : Int) == (m : Int)) = false := by simpa using (by omega : ¬ (n : Int) = m)
    go_enter Tryz.func242, Tryz.ntmps242
    go_wp2
    go_ret
    exact ⟨by rw [HE.out]; rfl, Below.refl _ _⟩

set_option maxHeartbeats 1000000 in
set_option maxRecDepth 100000 in
theorem sameFile_any (s t : List UInt8) (a1 : Option Addr) (n1 c1 : Nat) (a2 : Option Addr) (n2 c2 : Nat) (l k : List Ex) (w : World) (h1 : RdE w (.slice a1 n1 c1) l) (hn1 : n1 = l.length) (h2 : RdE w (.slice a2 n2 c2) k) (hn2 : n2 = k.length) :
    Calls Tryz.prog 222 #[.agg #[.string (bs s), .slice a1 n1 c1], .agg #[.string (bs t), .slice a2 n2 c2]] w fun e w' => e = .returned (.bool (decide ((s, l) = (t, k)))) ∧ Below w.heap.size w w' := by
  obtain ⟨W0, hW0⟩ : ∃ W0, W0 = (w.alloc (.cells #[.string (bs s), .slice a1 n1 c1] 92)).alloc (.cells #[.string (bs t), .slice a2 n2 c2] 92) := ⟨_, rfl⟩
  have hb0 : Below w.heap.size w W0 := by rw [hW0]; exact ((Below.refl _ _).alloc (Nat.le_refl _) _).alloc (by simp) _
  have hsm := equal_ext a1 a2 n1 c1 n2 c2 l k W0 (h1.carry hb0) (h2.carry hb0) hn1 hn2
  have HB0 := hide hb0
  clear h1 hn1 h2 hn2 hb0
  by_cases e : s = t
  · have x1 : ((bs s).toList == (bs t).toList) = true := by rw [eq_ofN, e]; simp
    have HE := hide (show decide ((s, l) = (t, k)) = decide (l = k) by simp [e])
    clear e
    go_enter Tryz.func222, Tryz.ntmps222
    go_wp2_with fail
    rw [← hW0]
    refine hsm.mono ?_
    rintro e w1 ⟨rfl, hb1⟩
    have HB1 := hide (show Below w.heap.size w w1 from HB0.out.trans (hb1.mono HB0.out.size))
    clear hsm hb1 hW0
    obtain ⟨r, hr⟩ : ∃ r, r = decide (l = k) := ⟨_, rfl⟩
    rw [← hr] at HE ⊢
    clear hr
    go_wp2
    go_ret
    exact ⟨by rw [HE.out]; rfl, HB1.out⟩
  · have x1 : ((bs s).toList == (bs t).toList) = false := by rw [eq_ofN]; simpa using e
    have HE := hide (show decide ((s, l) = (t, k)) = false by simp [e])
    clear e hsm
    go_enter Tryz.func222, Tryz.ntmps222
    go_wp2
    go_ret
    exact ⟨by rw [HE.out]; rfl, by rw [← hW0]; exact HB0.out⟩

set_option maxHeartbeats 2000000 in
set_option maxRecDepth 100000 in
theorem equalFunc_any (a : Option Addr) (n c : Nat) (fs : List Fl) (a' : Option Addr) (m c' : Nat) (gs : List Fl) (w : World) (h1 : RdF w (.slice a n c) fs) (hn : n = fs.length) (h2 : RdF w (.slice a' m c') gs) (hm : m = gs.length) :
    Calls Tryz.prog 221 #[.slice a n c, .slice a' m c', .func (.func 222) #[] #[]] w fun e w' => e = .returned (.bool (decide (fs = gs))) ∧ Below w.heap.size w w' := by
  have hnb : n ≤ maxLen := hn ▸ h1.len_le
  unfold maxLen at hnb
  have H1 := hide h1
  have H2 := hide h2
  have HN := hide hn
  have HM := hide hm
  clear h1 h2 hn hm
  by_cases g1 : n = m
  · subst g1
    go_enter Tryz.func221, Tryz.ntmps221
    go_wp2
    go_loopw [17] (fun i wr => ∃ k : Nat, k ≤ n ∧ i = .int .i64 k ∧ Hid (fs.take k = gs.take k) ∧ Below w.heap.size w wr) (fun i _ => n - (intOf i).toNat)
    case atStart => exact ⟨0, Nat.zero_le _, rfl, hide rfl, Below.refl _ _⟩
    case round =>
      obtain ⟨k, hk, rfl, hall, hbel⟩ := hrel
      by_cases hlt : k < n
      · have hlt' : (k : Int) < n := by omega
        have hkl : k < fs.length := by have := HN.out; omega
        have hkg : k < gs.length := by have := HM.out; omega
        have hw1 : wrap64 ((k : Int) + 1) = (k : Int) + 1 := by unfold wrap64; omega
        have HT := hide (take_snocF fs k hkl)
        have HU := hide (take_snocF gs k hkg)
        obtain ⟨b, off, a2, c2, rfl, q0, q1, q2⟩ := H1.out.atB hbel k hkl
        obtain ⟨b', off', a3, c3, rfl, p0, p1, p2⟩ := H2.out.atB hbel k hkg
        have HX := hide (show fs[k] ≠ gs[k] → decide (fs = gs) = false by
          intro h
          simp only [decide_eq_false_iff_not]
          rintro rfl
          exact h rfl)
        obtain ⟨f, hf⟩ : ∃ f, f = fs[k] := ⟨_, rfl⟩
        obtain ⟨g, hg⟩ : ∃ g, g = gs[k] := ⟨_, rfl⟩
        rw [← hf] at q0 q1 q2 HT HX
        rw [← hg] at p0 p1 p2 HU HX
        clear hf hg
        obtain ⟨s, l⟩ := f
        obtain ⟨t, l'⟩ := g
        simp only at q0 q1 q2 p0 p1 p2
        obtain ⟨m1, hm1⟩ : ∃ m1, m1 = l.length := ⟨_, rfl⟩
        obtain ⟨m2, hm2⟩ : ∃ m2, m2 = l'.length := ⟨_, rfl⟩
        rw [← hm1] at q1 q2
        rw [← hm2] at p1 p2
        obtain ⟨w2, hw2⟩ : ∃ w2, w2 = (wr.alloc (.cells #[.string (bs s), .slice a2 m1 c2] 92)).alloc (.cells #[.string (bs t), .slice a3 m2 c3] 92) := ⟨_, rfl⟩
        have hb2 : Below wr.heap.size wr w2 := by rw [hw2]; exact ((Below.refl _ _).alloc (Nat.le_refl _) _).alloc (by simp) _
        have hbel2 : Below w.heap.size w w2 := hbel.trans (hb2.mono hbel.size)
        have hsf := sameFile_any s t a2 m1 c2 a3 m2 c3 l l' w2 (q2.carry hbel2) hm1 (p2.carry hbel2) hm2
        obtain ⟨r, hr⟩ : ∃ r, r = decide ((s, l) = (t, l')) := ⟨_, rfl⟩
        rw [← hr] at hsf
        have HR := hide hr
        have p0a : ∀ o, (wr.alloc o).cell? ⟨b', off' + k * 2, none⟩ = some (.string (bs t)) := fun o => Lib.cell?_alloc_some _ p0
        have p1a : ∀ o, (wr.alloc o).cell? ⟨b', off' + k * 2 + 1, none⟩ = some (.slice a3 m2 c3) := fun o => Lib.cell?_alloc_some _ p1
        have x0 : w2.cell? ⟨wr.heap.size, 0, none⟩ = some (.string (bs s)) := by
          rw [hw2]
          exact Lib.cell?_alloc_some _ (FileAt.new wr (bs s) (.slice a2 m1 c2)).cell0
        have x1 : w2.cell? ⟨wr.heap.size, 1, none⟩ = some (.slice a2 m1 c2) := by
          rw [hw2]
          exact Lib.cell?_alloc_some _ (FileAt.new wr (bs s) (.slice a2 m1 c2)).cell1
        rw [hw2] at x0 x1
        clear hr hm1 hm2 q2 p2 hb2
        go_wp2_with fail
        rw [← hw2]
        refine hsf.mono ?_
        rintro e w3 ⟨rfl, b3⟩
        have hbel3 : Below w.heap.size w w3 := hbel2.trans (b3.mono hbel2.size)
        clear hsf hw2 x0 x1 p0a p1a b3 hbel2 hbel
        cases r with
        | true =>
          have e : (s, l) = (t, l') := by have := HR.out; simpa using this.symm
          have HA := hide (show fs.take (k + 1) = gs.take (k + 1) by rw [HT.out, HU.out, hall.out, e])
          clear e
          go_wp2
          go_roundw
          case rel => exact ⟨k + 1, by omega, rfl, HA, hbel3⟩
          case measure => simp only [intOf]; omega
        | false =>
          have HA := hide (HX.out (by have := HR.out; exact of_decide_eq_false this.symm))
          go_wp2
          go_ret
          exact ⟨by rw [HA.out]; rfl, hbel3⟩
      · have hd : decide ((k : Int) < n) = false := by simpa using (by omega : ¬ (k : Int) < n)
        have HA := hide (show decide (fs = gs) = true by
          have h := hall.out
          rw [List.take_of_length_le (by have := HN.out; omega), List.take_of_length_le (by have := HM.out; omega)] at h
          simpa using h)
        go_wp2
        go_ret
        exact ⟨by rw [HA.out]; rfl, hbel⟩
  · have HA := hide (show decide (fs = gs) = false by
      simp only [decide_eq_false_iff_not]
      rintro rfl
      exact g1 (HN.out.trans HM.out.symm))
    have g1' : ((n : Int) == (m : Int)) = false := by simp; omega
    go_enter Tryz.func221, Tryz.ntmps221
    go_wp2
    all_goals (go_ret; exact ⟨by rw [HA.out]; rfl, Below.refl _ _⟩)

set_option maxHeartbeats 1000000 in
set_option maxRecDepth 100000 in
theorem fsame_any (a : Option Addr) (n c : Nat) (fs : List Fl) (a' : Option Addr) (m c' : Nat) (gs : List Fl) (w : World) (h1 : RdF w (.slice a n c) fs) (hn : n = fs.length) (h2 : RdF w (.slice a' m c') gs) (hm : m = gs.length) :
    Calls Tryz.prog 155 #[.agg #[.slice a n c], .agg #[.slice a' m c']] w fun e w' => e = .returned (.bool (decide (fs = gs))) ∧ Below w.heap.size w w' := by
  obtain ⟨W0, hW0⟩ : ∃ W0, W0 = (w.alloc (.cells #[.slice a n c] 31)).alloc (.cells #[.slice a' m c'] 31) := ⟨_, rfl⟩
  have hb1 : Below w.heap.size w (w.alloc (.cells #[.slice a n c] 31)) := (Below.refl _ _).alloc (Nat.le_refl _) _
  have hb0 : Below w.heap.size w W0 := by rw [hW0]; exact hb1.alloc (by simp) _
  have d0 := (show DirAt W0 w.heap.size (.slice a n c) by
    rw [hW0]
    exact (DirAt.new w (.slice a n c)).carry ((Below.refl _ _).alloc (Nat.le_refl _) _)).cell
  have d1 := (show DirAt W0 (w.heap.size + 1) (.slice a' m c') by
    have := DirAt.new (w.alloc (.cells #[.slice a n c] 31)) (.slice a' m c')
    rw [hW0]; simpa using this).cell
  rw [hW0] at d0 d1
  have heq := equalFunc_any a n c fs a' m c' gs W0 (h1.carry hb0) hn (h2.carry hb0) hm
  have HB0 := hide hb0
  obtain ⟨r, hr⟩ : ∃ r, r = decide (fs = gs) := ⟨_, rfl⟩
  rw [← hr] at heq
  have HR := hide hr
  clear h1 h2 hn hm hb0 hb1 hr
  go_enter Tryz.func155, Tryz.ntmps155
  go_wp2_with fail
  rw [← hW0]
  refine heq.mono ?_
  rintro e w1 ⟨rfl, b1⟩
  clear heq hW0 d0 d1
  go_wp2
  go_ret
  exact ⟨by rw [← HR.out]; rfl, HB0.out.trans (b1.mono HB0.out.size)⟩

/-! ### what is turned -/
/-- Cells of extents may be others; all else stays, and each block keeps its size. -/
def Shp (base : Nat) (w w' : World) : Prop := Below base w w' ∧ w.heap.size ≤ w'.heap.size ∧ ∀ (k : Nat) (cs : Array Value) (t : TypeId), w.heap[k]? = some (.cells cs t (0, 0)) → ∃ cs' : Array Value, w'.heap[k]? = some (.cells cs' t (0, 0)) ∧ cs'.size = cs.size ∧ (t ≠ 166 → cs' = cs)
theorem Shp.refl (base : Nat) (w : World) : Shp base w w := ⟨Below.refl _ _, Nat.le_refl _, fun k cs t h => ⟨cs, h, rfl, fun _ => rfl⟩⟩
theorem Shp.trans {base : Nat} {w w1 w2 : World} (h : Shp base w w1) (k : Shp base w1 w2) : Shp base w w2 := by
  refine ⟨h.1.trans k.1, Nat.le_trans h.2.1 k.2.1, fun i cs t hi => ?_⟩
  obtain ⟨c1, h1, h2, h3⟩ := h.2.2 i cs t hi
  obtain ⟨c2, k1, k2, k3⟩ := k.2.2 i c1 t h1
  exact ⟨c2, k1, k2.trans h2, fun e => (k3 e).trans (h3 e)⟩
end Go.Proofs.YtnigdbhjaoeblaaGreat
