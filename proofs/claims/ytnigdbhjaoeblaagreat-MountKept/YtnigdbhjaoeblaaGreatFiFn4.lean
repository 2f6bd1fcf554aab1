/-
  What Rename and Create do.
-/
import Derived.Test.YtnigdbhjaoeblaaGreatFiFn2
namespace Go.Proofs.YtnigdbhjaoeblaaGreat
open Go.RowKit
set_option linter.unusedVariables false
set_option linter.unusedSimpArgs false

def fitL (fs : List Fl) : List Fl := if fitE fs = 0 then fs else []
theorem fitL_ok {fs : List Fl} (h : fitE fs = 0) : fitL fs = fs := by unfold fitL; rw [if_pos h]
theorem fitL_no {fs : List Fl} (h : fitE fs = 40) : fitL fs = [] := by unfold fitL; rw [h, if_neg (by decide)]

set_option maxHeartbeats 1000000 in
set_option maxRecDepth 100000 in
theorem fitting_any (base : Nat) (v : Value) (a : Option Addr) (n c : Nat) (fs : List Fl) (w : World) (hv : v = .slice a n c) (hown : OwF w base v fs) (hn : n = fs.length) (hbs : base ≤ w.heap.size) (hok : okB fs) :
    Calls Tryz.prog 170 #[v] w fun e w' => ∃ v', e = .returned (.tuple #[.agg #[v'], .int .i64 (fitE fs)]) ∧ OwF w' base v' (fitL fs) ∧ Below w.heap.size w w' := by
  subst hv
  have hb0 : Below w.heap.size w (w.alloc (.cells #[.slice none 0 0] 31)) := (Below.refl _ _).alloc (Nat.le_refl _) _
  have hfit := fits_any a n c fs _ (hown.rd.carry hb0) hn hok
  have HB0 := hide hb0
  have HD0 := hide (BlkD.new w (.slice none 0 0))
  have HO0 := hide (hown.carry hb0)
  clear hown hn hok hb0
  obtain ⟨W0, hW0⟩ : ∃ W0, W0 = w.alloc (.cells #[.slice none 0 0] 31) := ⟨_, rfl⟩
  rw [← hW0] at HB0 HD0 HO0 hfit
  by_cases g : (bytF fs).length ≤ 2048
  · have HE := hide (show fitE fs = 0 by unfold fitE; rw [if_pos g])
    rw [show decide ((bytF fs).length ≤ 2048) = true by simpa using g] at hfit
    clear g
    go_enter Tryz.func170, Tryz.ntmps170
    go_wp2_with fail
    rw [← hW0]
    refine hfit.mono ?_
    rintro e w1 ⟨rfl, hb1⟩
    have HB1 := hide (show Below w.heap.size w w1 from HB0.out.trans (hb1.mono HB0.out.size))
    have HD1 := hide (HD0.out.carry hb1)
    have HO1 := hide (HO0.out.carry hb1)
    clear hb1 hfit hW0
    have hc := HD1.out.cell
    have hf := HD1.out.fz
    obtain ⟨z0, hg, -⟩ := HD1.out.put (.slice a n c)
    go_wp2
    obtain ⟨w9, hw9⟩ : ∃ w9, w9 = w1.setCell ⟨w.heap.size, 0, none⟩ (.slice a n c) := ⟨_, rfl⟩
    rw [← hw9] at z0 hg ⊢
    refine bodyPost_ret (v := .tuple #[.agg #[.slice a n c], .int .i64 0]) ?_ rfl ⟨.slice a n c, by rw [HE.out], by rw [fitL_ok HE.out]; obtain ⟨y, hy⟩ := HD1.out; exact HO1.out.keptS hg hy (by decide) (by decide), HB1.out.grown hg HB1.out.size (by intro k hk; cases hk; omega)⟩
    clear hw9 hg hc
    simp [results, Tryz.results170, go_sem, *]
  · have HE := hide (show fitE fs = 40 by unfold fitE; rw [if_neg g])
    rw [show decide ((bytF fs).length ≤ 2048) = false by simpa using g] at hfit
    clear g
    go_enter Tryz.func170, Tryz.ntmps170
    go_wp2_with fail
    rw [← hW0]
    refine hfit.mono ?_
    rintro e w1 ⟨rfl, hb1⟩
    have HB1 := hide (show Below w.heap.size w w1 from HB0.out.trans (hb1.mono HB0.out.size))
    have HD1 := hide (HD0.out.carry hb1)
    clear hb1 hfit hW0
    have hc := HD1.out.cell
    have hf := HD1.out.fz
    obtain ⟨z0, hg, -⟩ := HD1.out.put (.slice none 0 0)
    go_wp2
    obtain ⟨w9, hw9⟩ : ∃ w9, w9 = w1.setCell ⟨w.heap.size, 0, none⟩ (.slice none 0 0) := ⟨_, rfl⟩
    rw [← hw9] at z0 hg ⊢
    refine bodyPost_ret (v := .tuple #[.agg #[.slice none 0 0], .int .i64 40]) ?_ rfl ⟨.slice none 0 0, by rw [HE.out], by rw [fitL_no HE.out]; exact OwF.nil _ _, HB1.out.grown hg HB1.out.size (by intro k hk; cases hk; omega)⟩
    clear hw9 hg hc
    simp [results, Tryz.results170, go_sem, *]

set_option maxHeartbeats 1000000 in
set_option maxRecDepth 100000 in
theorem used_any (a : Option Addr) (n c : Nat) (fs : List Fl) (w : World) (hrd : RdF w (.slice a n c) fs) (hn : n = fs.length) (hwf : wfFs fs) :
    Calls Tryz.prog 143 #[.agg #[.slice a n c]] w fun e w' => ∃ v, e = .returned (.tuple #[v, .int .i64 (chkF fs 4096)]) ∧ OwE w' w.heap.size v (usedL fs) ∧ Below w.heap.size w w' := by
  obtain ⟨W0, hW0⟩ : ∃ W0, W0 = w.alloc (.cells #[.slice a n c] 31) := ⟨_, rfl⟩
  have hb0 : Below w.heap.size w W0 := by rw [hW0]; exact (Below.refl _ _).alloc (Nat.le_refl _) _
  have HK0 := hide (show W0.heap[w.heap.size]? = some (.cells #[.slice a n c] 31 (0, 0)) by rw [hW0]; exact heap_alloc_new w _)
  have hchk := fcheck_any a n c fs 4096 W0 (hrd.carry hb0) hn hwf
  have HB0 := hide hb0
  have HEX := hide (fun w1 (hb1 : Below w.heap.size w w1) (hl : (usedF fs).length ≤ 1000000) => extents_any a n c fs w1 (hrd.carry hb1) hn hl)
  clear hrd hn hwf hb0
  by_cases g1 : chkF fs 4096 = 0
  · have HM := hide (chkF_may g1).2
    have HL := hide (show usedL fs = usedF fs by unfold usedL; rw [if_pos g1])
    have HE := hide g1
    rw [g1] at hchk
    clear g1
    go_enter Tryz.func143, Tryz.ntmps143
    go_wp2_with fail
    rw [← hW0]
    refine hchk.mono ?_
    rintro e w1 ⟨rfl, hb1⟩
    have HB1 := hide (show Below w.heap.size w w1 from HB0.out.trans (hb1.mono HB0.out.size))
    have HK1 := hide ((hb1.block _ (Array.getElem?_eq_some_iff.1 HK0.out).1).trans HK0.out)
    have r1 : w1.cell? ⟨w.heap.size, 0, none⟩ = some (.slice a n c) := by rw [cell_of_row w1 _ 0 _ _ (0, 0) HK1.out]; rfl
    clear hb1 hchk hW0
    go_wp2_with fail
    refine (HEX.out w1 HB1.out (by have := each_used HM.out.2.1 HM.out.1; omega)).mono ?_
    rintro e w2 ⟨v2, rfl, ho2, hb2⟩
    have HB2 := hide (show Below w.heap.size w w2 from HB1.out.trans (hb2.mono HB1.out.size))
    have HO2 := hide (ho2.mono HB1.out.size)
    clear ho2 hb2 r1
    go_wp2
    go_ret2
    exact ⟨_, by rw [HE.out]; rfl, by rw [HL.out]; exact HO2.out, HB2.out⟩
  · have HL := hide (show usedL fs = [] by unfold usedL; rw [if_neg g1])
    obtain ⟨z, hz⟩ : ∃ z, z = chkF fs 4096 := ⟨_, rfl⟩
    have HE := hide hz.symm
    rw [← hz] at hchk g1
    have g1' : (z == 0) = false := by simpa using g1
    clear hz
    go_enter Tryz.func143, Tryz.ntmps143
    go_wp2_with fail
    rw [← hW0]
    refine hchk.mono ?_
    rintro e w1 ⟨rfl, hb1⟩
    have HB1 := hide (show Below w.heap.size w w1 from HB0.out.trans (hb1.mono HB0.out.size))
    clear hb1 hchk hW0
    go_wp2
    all_goals (go_ret2; exact ⟨.slice none 0 0, by rw [HE.out]; rfl, by rw [HL.out]; exact OwE.nil _ _, HB1.out⟩)

set_option maxHeartbeats 1000000 in
set_option maxRecDepth 100000 in
theorem write5_any (a : Option Addr) (n c : Nat) (fs : List Fl) (B : Int) (w : World) (hrd : RdF w (.slice a n c) fs) (hn : n = fs.length) (hwf : wfFs fs) :
    Calls Tryz.prog 205 #[.agg #[.slice a n c], .int .i64 B] w fun e w' => ∃ v, e = .returned (.tuple #[v, .int .i64 (chkF fs B)]) ∧ OwBy w' w.heap.size v (writeL fs B) ∧ Below w.heap.size w w' := by
  obtain ⟨W0, hW0⟩ : ∃ W0, W0 = w.alloc (.cells #[.slice a n c] 31) := ⟨_, rfl⟩
  have hb0 : Below w.heap.size w W0 := by rw [hW0]; exact (Below.refl _ _).alloc (Nat.le_refl _) _
  have HK0 := hide (show W0.heap[w.heap.size]? = some (.cells #[.slice a n c] 31 (0, 0)) by rw [hW0]; exact heap_alloc_new w _)
  have hchk := fcheck_any a n c fs B W0 (hrd.carry hb0) hn hwf
  have HB0 := hide hb0
  have HEX := hide (fun w1 (hb1 : Below w.heap.size w w1) (hok : okB fs) => bytesOf_any a n c fs w1 (hrd.carry hb1) hn hok)
  clear hrd hn hwf hb0
  by_cases g1 : chkF fs B = 0
  · have HM := hide (chkF_may g1).2
    have HL := hide (show writeL fs B = bytF fs by unfold writeL; rw [if_pos g1])
    have HE := hide g1
    rw [g1] at hchk
    clear g1
    go_enter Tryz.func205, Tryz.ntmps205
    go_wp2_with fail
    rw [← hW0]
    refine hchk.mono ?_
    rintro e w1 ⟨rfl, hb1⟩
    have HB1 := hide (show Below w.heap.size w w1 from HB0.out.trans (hb1.mono HB0.out.size))
    have HK1 := hide ((hb1.block _ (Array.getElem?_eq_some_iff.1 HK0.out).1).trans HK0.out)
    have r1 : w1.cell? ⟨w.heap.size, 0, none⟩ = some (.slice a n c) := by rw [cell_of_row w1 _ 0 _ _ (0, 0) HK1.out]; rfl
    clear hb1 hchk hW0
    go_wp2_with fail
    refine (HEX.out w1 HB1.out (okB_may HM.out.1 HM.out.2.1 HM.out.2.2.1)).mono ?_
    rintro e w2 ⟨v2, rfl, ho2, hb2⟩
    have HB2 := hide (show Below w.heap.size w w2 from HB1.out.trans (hb2.mono HB1.out.size))
    have HO2 := hide (own_monoE ho2 HB1.out.size)
    clear ho2 hb2 r1
    go_wp2
    go_ret2
    exact ⟨_, by rw [HE.out]; rfl, by rw [HL.out]; exact HO2.out, HB2.out⟩
  · have HL := hide (show writeL fs B = [] by unfold writeL; rw [if_neg g1])
    obtain ⟨z, hz⟩ : ∃ z, z = chkF fs B := ⟨_, rfl⟩
    have HE := hide hz.symm
    rw [← hz] at hchk g1
    have g1' : (z == 0) = false := by simpa using g1
    clear hz
    go_enter Tryz.func205, Tryz.ntmps205
    go_wp2_with fail
    rw [← hW0]
    refine hchk.mono ?_
    rintro e w1 ⟨rfl, hb1⟩
    have HB1 := hide (show Below w.heap.size w w1 from HB0.out.trans (hb1.mono HB0.out.size))
    clear hb1 hchk hW0
    go_wp2
    all_goals (go_ret2; exact ⟨.slice none 0 0, by rw [HE.out]; rfl, by rw [HL.out]; exact World.ownsRow_nil _ _ _ _, HB1.out⟩)

end Go.Proofs.YtnigdbhjaoeblaaGreat
namespace Go.Proofs.YtnigdbhjaoeblaaGreat
open Go.RowKit
set_option linter.unusedVariables false
set_option linter.unusedSimpArgs false

set_option maxHeartbeats 1000000 in
set_option maxRecDepth 100000 in
theorem grow_ext (m : Nat) (w : World) (hm : m ≤ 1000000) :
    Calls Tryz.prog 211 #[.slice none 0 0, .int .i64 m] w fun e w' => ∃ v, e = .returned v ∧ OwE w' w.heap.size v [] ∧ Below w.heap.size w w' := by
  by_cases h0 : m = 0
  · subst h0
    go_enter Tryz.func211, Tryz.ntmps211
    go_wp2
    go_ret
    exact ⟨_, rfl, OwE.nil _ _, Below.refl _ _⟩
  · obtain ⟨i0, hi0, hz0, hz1, hz2⟩ := info_parts Tryz.infoEx
    have hold : (Builtin.firstCells i0.size 0 (.slice none 0 0)).run Tryz.prog w.drew = .ok ([] : List Value).toArray w.drew := by simp [Builtin.firstCells]
    have hrz := fun ty => Lib.run_append_grow_zeros (P := Tryz.prog) w 90 3 ty 166 i0 _ .i64 .i64 Tryz.underlying90 Tryz.underlying3 hi0 hz0 none 0 0 [] hold m (by omega) (by omega) (by omega) (by omega) (by rw [hz2]; omega) (by rw [hz2]; exact growslice_fits (by omega) (by omega))
    rw [Nat.zero_add] at hrz
    obtain ⟨G, hG⟩ : ∃ G, G = grownCap w m 0 166 := ⟨_, rfl⟩
    have hGn : m ≤ G := by rw [hG]; exact grownCap_ge w _ _ _
    have hGm : G ≤ maxLen := by rw [hG]; exact grownCap_le_maxLen w _ _ _ (by unfold maxLen; omega)
    rw [← hG] at hrz
    obtain ⟨ROW, hROW⟩ : ∃ ROW : Array Value, ROW = ([] : List Value).toArray ++ Builtin.zeroCells (Value.cells (.agg #[.int .i64 0, .int .i64 0])) m ++ Builtin.zeroCells (Value.cells (.agg #[.int .i64 0, .int .i64 0])) (G - m) := ⟨_, rfl⟩
    rw [← hROW] at hrz
    have hRs : ROW.size = G * 2 := by
      have e0 : Value.cells (.agg #[.int .i64 0, .int .i64 0]) = #[.int .i64 0, .int .i64 0] := rfl
      rw [hROW, e0]
      simp only [Array.size_append, List.size_toArray, Builtin.zeroCells, Array.size_map, Array.size_range, List.length_map, List.length_range, List.length_cons, List.length_nil]
      omega
    obtain ⟨W1, hW1⟩ : ∃ W1, W1 = w.drew.alloc (.cells ROW 166) := ⟨_, rfl⟩
    rw [← hW1] at hrz
    have HO := hide (show OwE W1 w.heap.size (.slice (some ⟨w.heap.size, 0, none⟩) 0 G) [] from ⟨rfl, .inr ⟨w.heap.size, G, ROW, rfl, Nat.le_refl _, by rw [hW1]; exact heap_alloc_new w.drew _, Nat.zero_le _, hGm, hRs, by simp [cellsE]⟩⟩)
    have HB := hide (show Below w.heap.size w W1 by rw [hW1]; exact (Below.refl w.heap.size w).drew.alloc (Nat.le_refl _) _)
    unfold maxLen at hGm
    clear hW1 hRs hROW hG hold hi0 hz0 hz1 hz2
    have hm0 : ¬ ((m : Int) < 0) := by omega
    have hm1 : (0 : Int) < m := by omega
    go_enter Tryz.func211, Tryz.ntmps211
    go_wp2_with (at_builtin; refine wpList_runapzF rfl (.tmp 20) (.tmp 21) 90 3 rfl rfl rfl (hrz _) ?_)
    go_ret
    exact ⟨_, rfl, HO.out, HB.out⟩

set_option maxHeartbeats 1000000 in
set_option maxRecDepth 100000 in
theorem concat_two (b : Nat) (a1 : Option Addr) (n1 c1 : Nat) (a2 : Option Addr) (n2 c2 : Nat) (l1 l2 : List Ex) (w : World) (hblk : w.heap[b]? = some (.cells #[.slice a1 n1 c1, .slice a2 n2 c2] 90 (0, 0)))
    (h1 : RdE w (.slice a1 n1 c1) l1) (hn1 : n1 = l1.length) (h2 : RdE w (.slice a2 n2 c2) l2) (hn2 : n2 = l2.length) (hl : l1.length + l2.length ≤ 1000000) :
    Calls Tryz.prog 144 #[.slice (some ⟨b, 0, none⟩) 2 2] w fun e w' => ∃ v, e = .returned v ∧ OwE w' w.heap.size v (l1 ++ l2) ∧ Below w.heap.size w w' := by
  have q0 : w.cell? ⟨b, 0, none⟩ = some (.slice a1 n1 c1) := by rw [cell_of_row w _ 0 _ _ (0, 0) hblk]; rfl
  have q1 : w.cell? ⟨b, 1, none⟩ = some (.slice a2 n2 c2) := by rw [cell_of_row w _ 1 _ _ (0, 0) hblk]; rfl
  have HQ0 := hide q0
  have HQ1 := hide q1
  have H1 := hide h1
  have H2 := hide h2
  have HN1 := hide hn1
  have HN2 := hide hn2
  have HL := hide hl
  have hb1 : n1 ≤ 1000000 := by omega
  have hb2 : n1 + n2 ≤ 1000000 := by omega
  clear h1 h2 hn1 hn2 hblk hl
  go_enter Tryz.func144, Tryz.ntmps144
  go_wp2
  go_loop [3, 11] (fun x i => (x = .int .i64 0 ∧ i = .int .i64 0) ∨ (x = .int .i64 n1 ∧ i = .int .i64 1) ∨ (x = .int .i64 ((n1 : Int) + n2) ∧ i = .int .i64 2)) (fun _ i => 2 - (intOf i).toNat)
  case atStart => exact .inl ⟨rfl, rfl⟩
  case round =>
    rcases hrel with ⟨rfl, rfl⟩ | ⟨rfl, rfl⟩ | ⟨rfl, rfl⟩
    · have g : ¬ ((n1 : Int) < 0) := by omega
      go_wp2
      go_round
      case rel => exact .inr (.inl ⟨rfl, rfl⟩)
      case measure => simp [intOf]
    · have g : ¬ ((n1 : Int) + n2 < 0) := by omega
      go_wp2
      go_round
      case rel => exact .inr (.inr ⟨rfl, rfl⟩)
      case measure => simp [intOf]
    · clear q0 q1
      obtain ⟨m, hm⟩ : ∃ m, m = n1 + n2 := ⟨_, rfl⟩
      have hm' : (n1 : Int) + n2 = (m : Int) := by omega
      rw [hm']
      have hm1 : m ≤ 1000000 := by omega
      clear hm hm'
      go_wp2_with fail
      refine (grow_ext m _ hm1).mono ?_
      rintro e w1 ⟨v1, rfl, ho1, hb1'⟩
      have HO1 := hide ho1
      clear ho1
      go_wp2
      go_loopw [6, 27] (fun v i wr => ((i = .int .i64 0 ∧ Hid (OwE wr w.heap.size v [])) ∨ (i = .int .i64 1 ∧ Hid (OwE wr w.heap.size v l1)) ∨ (i = .int .i64 2 ∧ Hid (OwE wr w.heap.size v (l1 ++ l2)))) ∧ Below w.heap.size w wr) (fun _ i _ => 2 - (intOf i).toNat)
      case atStart => exact ⟨.inl ⟨rfl, HO1⟩, hb1'⟩
      case round =>
        obtain ⟨hr, hbel⟩ := hrel
        clear HO1 hb1'
        have q0 : wr.cell? ⟨b, 0, none⟩ = some (.slice a1 n1 c1) := by rw [hbel.cell (World.block_lt_of_cell? w _ HQ0.out)]; exact HQ0.out
        have q1 : wr.cell? ⟨b, 1, none⟩ = some (.slice a2 n2 c2) := by rw [hbel.cell (World.block_lt_of_cell? w _ HQ1.out)]; exact HQ1.out
        rcases hr with ⟨rfl, ho⟩ | ⟨rfl, ho⟩ | ⟨rfl, ho⟩
        · obtain ⟨b9, c9, w9, hrun, ho9, hb9⟩ := app_exN ho.out hbel.size (H1.out.carry hbel) HN1.out (by have := HL.out; simp; omega)
          have HO9 := hide ho9
          have HB9 := hide (hbel.trans hb9)
          clear ho9 hb9 ho
          go_wp2_with (at_builtin; refine wpList_runappE rfl (.tmp 31) (.tmp 32) 90 rfl rfl rfl rfl hrun ?_)
          go_roundw
          case rel => exact ⟨.inr (.inl ⟨rfl, hide (by simpa using HO9.out)⟩), HB9.out⟩
          case measure => simp [intOf]
        · obtain ⟨b9, c9, w9, hrun, ho9, hb9⟩ := app_exN ho.out hbel.size (H2.out.carry hbel) HN2.out (by have := HL.out; omega)
          have HO9 := hide ho9
          have HB9 := hide (hbel.trans hb9)
          clear ho9 hb9 ho
          go_wp2_with (at_builtin; refine wpList_runappE rfl (.tmp 31) (.tmp 32) 90 rfl rfl rfl rfl hrun ?_)
          go_roundw
          case rel => exact ⟨.inr (.inr ⟨rfl, hide (by simpa using HO9.out)⟩), HB9.out⟩
          case measure => simp [intOf]
        · go_wp2
          go_ret
          exact ⟨_, rfl, ho.out, hbel⟩

end Go.Proofs.YtnigdbhjaoeblaaGreat
namespace Go.Proofs.YtnigdbhjaoeblaaGreat
open Go.RowKit
set_option linter.unusedVariables false
set_option linter.unusedSimpArgs false

theorem insF_mem {fs : List Fl} {q f : Fl} (h : f ∈ insF fs q) : f ∈ fs ∨ f = q := by
  unfold insF at h
  rcases List.mem_append.1 h with h | h
  · exact .inl (List.mem_of_mem_take h)
  · rcases List.mem_cons.1 h with h | h
    · exact .inr h
    · exact .inl (List.mem_of_mem_drop h)
theorem insF_len (fs : List Fl) (q : Fl) : (insF fs q).length = fs.length + 1 := by
  have := posF_le fs q.1
  simp only [insF, List.length_append, List.length_take, List.length_cons, List.length_drop]; omega
theorem nameF_len {s : List UInt8} (h : nameF s = true) : s.length ≤ 16 := by simp only [nameF, Bool.and_eq_true, decide_eq_true_eq] at h; omega
theorem okB_ins {fs : List Fl} {q : Fl} (h : okB fs) (hl : fs.length ≤ 999) (hq : q.1.length ≤ 1000 ∧ q.2.length ≤ 1000 ∧ ∀ x ∈ q.2, 0 ≤ x.1 ∧ x.1 ≤ 4096 ∧ 0 ≤ x.2 ∧ x.2 ≤ 4096) : okB (insF fs q) := by
  refine ⟨by rw [insF_len]; omega, fun f hf => ?_⟩
  rcases insF_mem hf with hf | rfl
  · exact h.2 f hf
  · exact hq
end Go.Proofs.YtnigdbhjaoeblaaGreat
