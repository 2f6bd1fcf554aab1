/-
  The chapter's examples of layer 5: what the statements' own 'of', 'one', 'two', 'alive' answer.
-/
import Derived.Test.YtjjhaahlinbpdaaSmall
import Derived.Test.YtjjhaahlinbpdaaFiFn5
namespace Go.Proofs.Ytjjhaahlinbpdaa
open Go.RowKit
set_option linter.unusedVariables false
set_option linter.unusedSimpArgs false

set_option maxHeartbeats 1000000 in
set_option maxRecDepth 100000 in
theorem of5_any (a : Option Addr) (n c : Nat) (l : List Int) (w : World) (hrd : RdI w (.slice a n c) l) (hn : n = l.length) (hl : n ≤ 1000) :
    Calls Try.prog 13 #[.slice a n c] w fun e w' => ∃ v, e = .returned v ∧ OwE w' w.heap.size v (ofX l) ∧ Below w.heap.size w w' := by
  have HR := hide hrd
  have HN := hide hn
  clear hrd hn
  go_enter Try.func13, Try.ntmps13
  go_wp2
  go_loopw [3, 4] (fun v i wr => ∃ j : Nat, j ≤ n ∧ i = .int .i64 j ∧ Hid (∃ k, j = 2 * k) ∧ Hid (OwE wr w.heap.size v (ofX (l.take j))) ∧ (ofX (l.take j)).length ≤ j ∧ Below w.heap.size w wr) (fun _ i _ => n - (intOf i).toNat)
  case atStart => exact ⟨0, Nat.zero_le _, rfl, hide ⟨0, rfl⟩, hide (OwE.nil _ _), by simp [ofX], Below.refl _ _⟩
  case round =>
    obtain ⟨j, hj, rfl, hk, ho, hol, hbel⟩ := hrel
    have hw1 : wrap64 ((j : Int) + 1) = (j : Int) + 1 := wrapS (by omega)
    by_cases hlt : j + 1 < n
    · have hlt' : (j : Int) + 1 < n := by omega
      have hjl : j < l.length := by have := HN.out; omega
      have hjl1 : j + 1 < l.length := by have := HN.out; omega
      have HE := hide (show ofX (l.take (j + 2)) = ofX (l.take j) ++ [(l[j], l[j + 1])] by
        obtain ⟨k, e⟩ := hk.out
        subst e
        exact ofX_next l k hjl1)
      obtain ⟨b, off, rfl, q0⟩ := (HR.out.carry hbel).at j hjl
      obtain ⟨b', off', e, q1⟩ := (HR.out.carry hbel).at (j + 1) hjl1
      cases e
      obtain ⟨w0, ew0⟩ : ∃ w0, w0 = wr := ⟨_, rfl⟩
      obtain ⟨S, eS⟩ : ∃ S : World → Prop, S = fun wx => wx.cell? ⟨b, off + j, none⟩ = some (.int .i64 l[j]) ∧ wx.cell? ⟨b, off + (j + 1), none⟩ = some (.int .i64 l[j + 1]) := ⟨_, rfl⟩
      have hK : Keeps S := by rw [eS]; exact (keeps_cell _ _).and (keeps_cell _ _)
      have hS0 : S wr := by rw [eS]; exact ⟨q0, q1⟩
      obtain ⟨a3, c3, rfl⟩ := ho.out.form
      have hj1 : ((j : Int) + 1).toNat = j + 1 := by omega
      have hjn : j < n := by omega
      have hwi : IntKind.i64.wrap ((j : Int) + 1) = (j : Int) + 1 := by rw [IntKind.wrap_i64]; omega
      have hji : 0 ≤ (j : Int) + 1 := by omega
      obtain ⟨g9, c9, w9, hrun, hown9, hbel9⟩ := app_ext (w := wr.drew) ho.out hbel.size (by omega) l[j] l[j + 1]
      have hb2 : Below w.heap.size w w9 := hbel.trans ⟨hbel9.os, hbel9.tape, hbel9.output, hbel9.size, hbel9.block⟩
      have HO2 := hide (show OwE w9 w.heap.size (.slice (some ⟨g9, 0, none⟩) ((ofX (l.take j)).length + 1) c9) (ofX (l.take (j + 2))) by rw [HE.out]; exact hown9)
      have hS9 : S w9 := by
        rw [eS]
        obtain ⟨b1, off1, e1, z0⟩ := (HR.out.carry hb2).at j hjl
        cases e1
        obtain ⟨b2, off2, e2, z1⟩ := (HR.out.carry hb2).at (j + 1) hjl1
        cases e2
        exact ⟨z0, z1⟩
      have hSa : S (wr.drew.alloc (.cells #[.int .i64 l[j], .int .i64 l[j + 1]] 72)) := hK wr.drew _ (by rw [eS]; exact ⟨q0, q1⟩) ((Below.refl _ _).alloc (Nat.le_refl _) _)
      have HK2 := hide (show ∃ k, j + 2 = 2 * k by obtain ⟨k, e⟩ := hk.out; exact ⟨k + 1, by omega⟩)
      clear hown9 hbel9
      go_wp2
      rw [eS] at hK hS0 hS9 hSa
      refine reg_begin hK (by kernel_rfl) hS0 ?_
      intro hS
      refine reg_plan [0, 1, 2, 3, 4, 5, 6, 7, 8, 9, 10] (fuel := 3) (a' := ?qa1) (by kernel_rfl) (by kernel_rfl) (by kernel_rfl) ?qp1 hS ?qn1
      case qp1 =>
        iterate 11 (apply Yl.cons rfl rfl; focus (rintro wx ⟨x1, x2⟩; go_simp; all_goals (with_reducible rfl)); try simp only [Act.put, List.setIfInBounds_toArray, List.set_cons_zero, List.set_cons_succ])
        exact Yl.nil
      refine reg_run (i := 11) (v := .slice (some ⟨wr.heap.size, 0, none⟩) 1 1) (w' := wr.drew.alloc (.cells #[.int .i64 l[j], .int .i64 l[j + 1]] 72)) rfl (by kernel_rfl) (by rfl) (by go_simp) hSa ?_
      clear hS
      have hS := hSa
      try simp only [Act.put, List.setIfInBounds_toArray, List.set_cons_zero, List.set_cons_succ]
      refine reg_run (i := 12) (v := .slice (some ⟨g9, 0, none⟩) ((ofX (l.take j)).length + 1) c9) (w' := w9) rfl (by kernel_rfl) (by rfl) (run_appE (v := .slice a3 (ofX (l.take j)).length c3) (y := .slice (some ⟨wr.heap.size, 0, none⟩) 1 1) rfl rfl rfl hrun) hS9 ?_
      clear hS
      have hS := hS9
      try simp only [Act.put, List.setIfInBounds_toArray, List.set_cons_zero, List.set_cons_succ]
      refine reg_plan [13] (fuel := 0) (a' := ?qa2) (by kernel_rfl) (by kernel_rfl) (by kernel_rfl) ?qp2 hS ?qn2
      case qp2 =>
        iterate 1 (apply Yl.cons rfl rfl; focus (rintro wx ⟨x1, x2⟩; go_simp; all_goals (with_reducible rfl)); try simp only [Act.put, List.setIfInBounds_toArray, List.set_cons_zero, List.set_cons_succ])
        exact Yl.nil
      refine wpAnyH_done (by kernel_rfl) ?_ _
      refine NoPanic.normal ?_
      go_wp2
      go_roundw
      case rel => exact ⟨j + 2, by omega, rfl, HK2, HO2, by rw [HE.out, List.length_append]; simp; omega, hb2⟩
      case measure => simp only [intOf]; omega
    · have hd : decide ((j : Int) + 1 < n) = false := by simpa using (by omega : ¬ (j : Int) + 1 < n)
      have HE := hide (show ofX (l.take j) = ofX l by
        obtain ⟨k, e⟩ := hk.out
        subst e
        exact ofX_end l k (by have := HN.out; omega) (by have := HN.out; omega))
      go_wp2
      go_ret
      exact ⟨_, rfl, by rw [← HE.out]; exact ho.out, hbel⟩

/-- 'of' of a literal. -/
theorem of5_lit (l : List Int) (n : Nat) (arr : Array Value) (w : World) (hn : n = l.length) (hl : n ≤ 1000) (ha : arr = (cellsI l).toArray) :
    Calls Try.prog 13 #[.slice (some ⟨w.heap.size, 0, none⟩) n n] (w.alloc (.cells arr 3)) fun e w' => ∃ a c, e = .returned (.slice a (ofX l).length c) ∧ OwE w' w.heap.size (.slice a (ofX l).length c) (ofX l) ∧ Below w.heap.size w w' := by
  refine (of5_any _ n n l _ (rdI_lit w l n hn (by omega) arr ha) hn hl).mono ?_
  rintro e w' ⟨v, rfl, h1, h2⟩
  obtain ⟨a, c, rfl⟩ := h1.form
  exact ⟨a, c, rfl, h1.mono (by simp), ((Below.refl _ _).alloc (Nat.le_refl _) _).trans (h2.mono (by simp))⟩


theorem wf_fs {fs : List Fl} (h : (usedF fs).all wfB = true) : wfFs fs := fun f hf x hx => wf_all h x (List.mem_flatMap.2 ⟨f, hf, hx⟩)
def oneL : List Fl := [([97], [(34, 2)])]
def twoL : List Fl := [([97], [(34, 2)]), ([98], [(36, 1), (40, 2)])]

set_option maxHeartbeats 1000000 in
set_option maxRecDepth 100000 in
theorem one_any (w : World) : Calls Try.prog 12 #[] w fun e w' => ∃ a c, e = .returned (.agg #[.slice a 1 c]) ∧ OwF w' w.heap.size (.slice a 1 c) oneL ∧ Below w.heap.size w w' := by
  have hb0 : Below w.heap.size w (w.alloc (.cells #[.slice none 0 0] 25)) := (Below.refl _ _).alloc (Nat.le_refl _) _
  have HD0 := hide (BlkD.new w (.slice none 0 0))
  have HB0 := hide hb0
  clear hb0
  go_enter Try.func12, Try.ntmps12
  go_wp2_with fail
  obtain ⟨W0, hW0⟩ : ∃ W0, W0 = w.alloc (.cells #[.slice none 0 0] 25) := ⟨_, rfl⟩
  have hsz : w.heap.size + 1 = W0.heap.size := by rw [hW0]; simp
  rw [← hW0] at HB0 HD0
  have hof := of5_lit [34, 2] 2 _ W0 rfl (by decide) rfl
  rw [← hsz] at hof
  rw [← hW0]
  refine hof.mono ?_
  rintro e w1 ⟨a1, c1, rfl, ho1, hb1⟩
  rw [hsz] at ho1 hb1
  clear hof hsz hW0
  have HB1 := hide (show Below w.heap.size w w1 from HB0.out.trans (hb1.mono HB0.out.size))
  have HD1 := hide (HD0.out.carry hb1)
  have HO1 := hide (ho1.mono HB0.out.size)
  have hl : (ofX [34, 2]).length = 1 := rfl
  rw [hl] at HO1 ⊢
  have hb2 : Below w1.heap.size w1 (w1.alloc (.cells #[.string { data := #[97] }, .slice a1 1 c1] 39)) := (Below.refl _ _).alloc (Nat.le_refl _) _
  have HOF := hide (show OwF (w1.alloc (.cells #[.string { data := #[97] }, .slice a1 1 c1] 39)) w.heap.size (.slice (some ⟨w1.heap.size, 0, none⟩) 1 1) oneL from
    ⟨[(([97], [(34, 2)]), .slice a1 1 c1)], rfl, ⟨rfl, .inr ⟨w1.heap.size, 1, #[.string { data := #[97] }, .slice a1 1 c1], rfl, HB1.out.size, heap_alloc_new w1 _, Nat.le_refl _, by decide, rfl, rfl⟩⟩, by
      intro p hp
      obtain rfl := List.mem_singleton.1 hp
      exact HO1.out.carry hb2⟩)
  have HB2 := hide (show Below w.heap.size w _ from HB1.out.trans (hb2.mono HB1.out.size))
  have HD2 := hide (HD1.out.carry hb2)
  clear ho1 hb1 hb2 hl
  obtain ⟨w2, hw2⟩ : ∃ w2, w2 = w1.alloc (.cells #[.string { data := #[97] }, .slice a1 1 c1] 39) := ⟨_, rfl⟩
  rw [← hw2] at HOF HB2 HD2
  have hc : ∀ o, (w1.alloc o).cell? ⟨w.heap.size, 0, none⟩ = some (vAt w1 ⟨w.heap.size, 0, none⟩) := fun o => Lib.cell?_alloc_some _ HD1.out.cell
  have hf : ∀ o, (w1.alloc o).frozen? ⟨w.heap.size, 0, none⟩ = false := fun o => (HD1.out.carry ((Below.refl _ _).alloc (Nat.le_refl _) o)).fz
  obtain ⟨z0, hg, -⟩ := HD2.out.put (.slice (some ⟨w1.heap.size, 0, none⟩) 1 1)
  go_wp2
  rw [← hw2]
  obtain ⟨w9, hw9⟩ : ∃ w9, w9 = w2.setCell ⟨w.heap.size, 0, none⟩ (.slice (some ⟨w1.heap.size, 0, none⟩) 1 1) := ⟨_, rfl⟩
  rw [← hw9] at z0 hg ⊢
  refine bodyPost_ret (v := .agg #[.slice (some ⟨w1.heap.size, 0, none⟩) 1 1]) ?_ rfl ⟨_, _, rfl, by obtain ⟨y, hy⟩ := HD2.out; exact HOF.out.keptS hg hy (by decide) (by decide), HB2.out.grown hg HB2.out.size (by intro k hk; cases hk; omega)⟩
  clear hw9 hg hc hf hw2
  simp [results, Try.results12, go_sem, *]

theorem two_create : createE oneL [98] [(36, 1), (40, 2)] 64 = 0 ∧ createL oneL [98] [(36, 1), (40, 2)] 64 = twoL := by
  constructor <;> kernel_rfl
theorem two_used : chkF twoL 4096 = 0 ∧ usedL twoL = [(34, 2), (36, 1), (40, 2)] := by constructor <;> kernel_rfl

set_option maxHeartbeats 1000000 in
set_option maxRecDepth 100000 in
theorem two_any (w : World) : Calls Try.prog 10 #[] w fun e w' => ∃ a c, e = .returned (.tuple #[.agg #[.slice a 2 c], .bool true]) ∧ OwF w' w.heap.size (.slice a 2 c) twoL ∧ Below w.heap.size w w' := by
  have hb0 : Below w.heap.size w (w.alloc (.cells #[.slice none 0 0] 25)) := (Below.refl _ _).alloc (Nat.le_refl _) _
  have HD0 := hide (BlkD.new w (.slice none 0 0))
  have HB0 := hide hb0
  clear hb0
  go_enter Try.func10, Try.ntmps10
  go_wp2_with fail
  refine (one_any _).mono ?_
  rintro e w1 ⟨a1, c1, rfl, ho1, hb1⟩
  have HB1 := hide (show Below w.heap.size w w1 from HB0.out.trans (hb1.mono HB0.out.size))
  have HD1 := hide (HD0.out.carry hb1)
  have HO1 := hide (ho1.mono HB0.out.size)
  clear ho1 hb1
  go_wp2_with fail
  refine (of5_lit [36, 1, 40, 2] 4 _ w1 rfl (by decide) rfl).mono ?_
  rintro e w2 ⟨a2, c2, rfl, ho2, hb2⟩
  have HB2 := hide (show Below w.heap.size w w2 from HB1.out.trans (hb2.mono HB1.out.size))
  have HD2 := hide (HD1.out.carry hb2)
  have HO2 := hide (HO1.out.carry hb2)
  have HX2 := hide (ho2.mono HB1.out.size)
  have hl : ofX [36, 1, 40, 2] = [(36, 1), (40, 2)] := rfl
  rw [hl] at HX2 ⊢
  have hcr := create_any a1 1 c1 oneL [98] a2 2 c2 [(36, 1), (40, 2)] 64 w2 HO2.out.rd rfl (wf_fs (by kernel_rfl)) HX2.out.rd rfl (by decide) (wf_all (by kernel_rfl))
  rw [two_create.1, two_create.2] at hcr
  clear ho2 hb2 hl
  go_wp2_with fail
  refine hcr.mono ?_
  rintro e w3 ⟨v3, rfl, ho3, hb3⟩
  have HB3 := hide (show Below w.heap.size w w3 from HB2.out.trans (hb3.mono HB2.out.size))
  have HD3 := hide (HD2.out.carry hb3)
  have HO3 := hide (ho3.mono HB2.out.size)
  obtain ⟨a3, c3, hf3⟩ : ∃ a3 c3, v3 = .slice a3 2 c3 := ho3.form
  subst hf3
  clear ho3 hb3 hcr
  have hc : ∀ o, (w3.alloc o).cell? ⟨w.heap.size, 0, none⟩ = some (vAt w3 ⟨w.heap.size, 0, none⟩) := fun o => Lib.cell?_alloc_some _ HD3.out.cell
  have hf : ∀ o, (w3.alloc o).frozen? ⟨w.heap.size, 0, none⟩ = false := fun o => (HD3.out.carry ((Below.refl _ _).alloc (Nat.le_refl _) o)).fz
  have hb4 : Below w3.heap.size w3 (w3.alloc (.cells #[.slice a3 2 c3] 25)) := (Below.refl _ _).alloc (Nat.le_refl _) _
  have HD4 := hide (HD3.out.carry hb4)
  have HO4 := hide (HO3.out.carry hb4)
  have HB4 := hide (show Below w.heap.size w _ from HB3.out.trans (hb4.mono HB3.out.size))
  obtain ⟨w4, hw4⟩ : ∃ w4, w4 = w3.alloc (.cells #[.slice a3 2 c3] 25) := ⟨_, rfl⟩
  rw [← hw4] at HD4 HO4 HB4
  obtain ⟨z0, hg, -⟩ := HD4.out.put (.slice a3 2 c3)
  clear hb4
  go_wp2
  rw [← hw4]
  obtain ⟨w9, hw9⟩ : ∃ w9, w9 = w4.setCell ⟨w.heap.size, 0, none⟩ (.slice a3 2 c3) := ⟨_, rfl⟩
  rw [← hw9] at z0 hg ⊢
  refine bodyPost_ret (v := .tuple #[.agg #[.slice a3 2 c3], .bool true]) ?_ rfl ⟨_, _, rfl, by obtain ⟨y, hy⟩ := HD4.out; exact HO4.out.keptS hg hy (by decide) (by decide), HB4.out.grown hg HB4.out.size (by intro k hk; cases hk; omega)⟩
  clear hw9 hg hc hf hw4
  simp [results, Try.results10, go_sem, *]

/-- A directory's cell that holds a value. -/
def DirAt (w : World) (q : Nat) (y : Value) : Prop := w.heap[q]? = some (.cells #[y] 25 (0, 0))
theorem DirAt.carry {w w' : World} {q : Nat} {y : Value} (h : DirAt w q y) (hb : Below w.heap.size w w') : DirAt w' q y := (hb.block q (Array.getElem?_eq_some_iff.1 h).1).trans h
theorem DirAt.cell {w : World} {q : Nat} {y : Value} (h : DirAt w q y) : w.cell? ⟨q, 0, none⟩ = some y := by rw [cell_of_row w q 0 _ _ (0, 0) h]; rfl
theorem DirAt.cellA {w : World} {q : Nat} {y : Value} (h : DirAt w q y) (o : Obj) : (w.alloc o).cell? ⟨q, 0, none⟩ = some y := (h.carry ((Below.refl _ _).alloc (Nat.le_refl _) o)).cell
theorem DirAt.new (w : World) (y : Value) : DirAt (w.alloc (.cells #[y] 25)) w.heap.size y := heap_alloc_new w _

set_option maxHeartbeats 1000000 in
set_option maxRecDepth 100000 in
theorem alive5_any (w : World) : Calls Try.prog 9 #[] w fun e w' => e = .returned (.bool true) ∧ Below w.heap.size w w' := by
  go_enter Try.func9, Try.ntmps9
  go_wp2_with fail
  refine (two_any _).mono ?_
  rintro e w1 ⟨a1, c1, rfl, ho1, hb1⟩
  have HB1 := hide hb1
  have HO1 := hide ho1
  clear ho1 hb1
  have hb2 : Below w1.heap.size w1 (w1.alloc (.cells #[.slice a1 2 c1] 25)) := (Below.refl _ _).alloc (Nat.le_refl _) _
  have hus := used_any a1 2 c1 twoL (w1.alloc (.cells #[.slice a1 2 c1] 25)) (HO1.out.rd.carry hb2) rfl (wf_fs (by kernel_rfl))
  rw [two_used.1, two_used.2] at hus
  have HBB := hide hb2
  clear hb2
  go_wp2_with fail
  refine hus.mono ?_
  rintro e w2 ⟨v2, rfl, ho2, hb2⟩
  have hb12 : Below w1.heap.size w1 w2 := HBB.out.trans (hb2.mono HBB.out.size)
  have HB2 := hide (show Below w.heap.size w w2 from HB1.out.trans (hb12.mono HB1.out.size))
  have HO2 := hide (HO1.out.carry hb12)
  have HX2 := hide ho2
  have HD2 := hide ((DirAt.new w1 (.slice a1 2 c1)).carry hb2)
  obtain ⟨a2, c2, hf2⟩ : ∃ a2 c2, v2 = .slice a2 3 c2 := ho2.form
  subst hf2
  obtain ⟨b, off, a4, c4, rfl, q0, -, -⟩ := HO2.out.rd.at 1 (by decide)
  have q0' : w2.cell? ⟨b, off + 2, none⟩ = some (.string { data := #[98] }) := q0
  have r0 := HD2.out.cell
  clear hus ho2 hb2 hb12 q0
  go_wp2_with fail
  refine (of5_lit [34, 2, 36, 1, 40, 2] 6 _ w2 rfl (by decide) rfl).mono ?_
  rintro e w3 ⟨a3, c3, rfl, ho3, hb3⟩
  have hl : ofX [34, 2, 36, 1, 40, 2] = [(34, 2), (36, 1), (40, 2)] := rfl
  rw [hl] at ho3 ⊢
  have HB3 := hide (show Below w.heap.size w w3 from HB2.out.trans (hb3.mono HB2.out.size))
  have hsm := same_ext a2 a3 3 c2 3 c3 [(34, 2), (36, 1), (40, 2)] [(34, 2), (36, 1), (40, 2)] w3 (HX2.out.rd.carry hb3) ho3.rd rfl rfl
  clear ho3 hb3 hl
  go_wp2_with fail
  refine hsm.mono ?_
  rintro e w4 ⟨rfl, hb4⟩
  have HB4 := hide (show Below w.heap.size w w4 from HB3.out.trans (hb4.mono HB3.out.size))
  clear hsm hb4
  go_wp2
  go_ret
  exact ⟨rfl, HB4.out⟩

end Go.Proofs.Ytjjhaahlinbpdaa
