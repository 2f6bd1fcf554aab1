/-
  What the statements' table, two and alive do.
-/
import Derived.Test.YtepfojlclgnicaaVn15
import Derived.Test.YtepfojlclgnicaaRegLP
namespace Go.Proofs.Ytepfojlclgnicaa
open Go.RowKit
set_option linter.unusedVariables false
set_option linter.unusedSimpArgs false
set_option synthInstance.maxHeartbeats 400000
set_option synthInstance.maxSize 4000

set_option maxHeartbeats 2000000 in
set_option maxRecDepth 100000 in
theorem table_lw (nm lo hi : List UInt8) (w : World) :
    Calls Try.prog 9 #[.string (bs nm), .string (bs lo), .string (bs hi)] w fun e w' => e = .returned (.agg #[.string (bs nm), .int .i64 1, .int .i64 1, .string (bs lo), .string (bs hi)]) ∧ Below w.heap.size w w' := by
  obtain ⟨w9, hw9⟩ : ∃ w9, w9 = w.alloc (.cells #[.string (bs nm), .int .i64 1, .int .i64 1, .string (bs lo), .string (bs hi)] 28) := ⟨_, rfl⟩
  have HB9 := hide (show Below w.heap.size w w9 by rw [hw9]; exact (Below.refl _ _).alloc (Nat.le_refl _) _)
  have hp9 : MvAt w9 w.heap.size (nm, 1, 1, lo, hi) := by rw [hw9]; exact MvAt.new w (nm, 1, 1, lo, hi)
  obtain ⟨z0, z1, z2, z3, z4⟩ := hp9.cells
  simp only [Mlo, Mhi] at z0 z1 z2 z3 z4
  clear hp9
  go_enter Try.func9, Try.ntmps9
  go_wp2
  rw [← hw9]
  clear hw9
  refine bodyPost_ret (v := .agg #[.string (bs nm), .int .i64 1, .int .i64 1, .string (bs lo), .string (bs hi)]) ?_ rfl ⟨rfl, HB9.out⟩
  simp [results, Try.results9, go_sem, *]

def twoA : Mta := ([97], 1, 1, [98], [100])
def twoB : Mta := ([98], 1, 1, [99], [102])
def logS : List UInt8 := [108, 111, 103]
def twoV0 : Vrs := ([[], [], [], []], 1, 0, logS)
def twoV1 : Vrs := ([[twoA], [], [], []], 1, 0, logS)
def twoV2 : Vrs := ([[twoA, twoB], [], [], []], 1, 0, logS)
theorem twoV_new : newE logS = 0 ∧ newV logS = twoV0 := by decide +kernel
theorem twoV_a : addE twoV0 twoA = 0 ∧ addV twoV0 twoA = twoV1 := by decide +kernel
theorem twoV_b : addE twoV1 twoB = 0 ∧ addV twoV1 twoB = twoV2 := by decide +kernel
def AnsT (base : Nat) (L : List (List Mta)) (w' : World) (a : Option Addr) (c : Nat) : Prop := ∃ S, OwVw w' base (.slice a 4 c) S ∧ lvs S = L
theorem AnsV.t {base : Nat} {L : List (List Mta)} {nx sq : Int} {lg : List UInt8} {k : Int} {e : Ending} {w' : World} (h : AnsV base (L, nx, sq, lg) k e w') (h4 : L.length = 4) : ∃ a c, e = .returned (.tuple #[.agg #[.slice a 4 c, .int .i64 nx, .int .i64 sq, .string (bs lg)], .int .i64 k]) ∧ AnsT base L w' a c := by
  obtain ⟨v, S, rfl, ho, hS⟩ := h
  obtain ⟨a, c, rfl⟩ := OwG.form ho.1
  have : S.length = 4 := by rw [← lvs_len, hS]; exact h4
  rw [this] at ho ⊢
  exact ⟨a, c, rfl, S, ho, hS⟩
theorem add_lw {base : Nat} {L L' : List (List Mta)} {a : Option Addr} {c : Nat} {w w0 : World} (h : AnsT base L w0 a c) (hw : Below w0.heap.size w0 w) (m : Mta) (hT : L.flatten.length ≤ 100000) (hadd : addE (L, 1, 0, logS) m = 0 ∧ addV (L, 1, 0, logS) m = (L', 1, 0, logS)) (h4 : L'.length = 4) :
    Calls Try.prog 13 #[.agg #[.slice a 4 c, .int .i64 1, .int .i64 0, .string (bs logS)], .agg #[.string (bs m.1), .int .i64 m.2.1, .int .i64 m.2.2.1, .string (bs (Mlo m)), .string (bs (Mhi m))]] w fun e w' => ∃ v, e = .returned v ∧ ∃ a1 c1, v = .tuple #[.agg #[.slice a1 4 c1, .int .i64 1, .int .i64 0, .string (bs logS)], .int .i64 0] ∧ AnsT w.heap.size L' w' a1 c1 ∧ Below w.heap.size w w' := by
  obtain ⟨S, ho, hS⟩ := h
  have hc := add_vn a 4 c S 1 0 logS m w (ho.rd.carry hw) (by omega) (by rw [hS]; exact hT)
  rw [hS, hadd.1, hadd.2] at hc
  refine hc.mono ?_
  rintro e w' ⟨ha, hb⟩
  obtain ⟨a1, c1, rfl, ht⟩ := ha.t h4
  exact ⟨_, rfl, a1, c1, rfl, ht, hb⟩

set_option maxHeartbeats 8000000 in
set_option maxRecDepth 100000 in
theorem two_lw (w : World) : Calls Try.prog 8 #[] w fun e w' => ∃ a c, e = .returned (.tuple #[.agg #[.slice a 4 c, .int .i64 1, .int .i64 0, .string (bs logS)], .bool true]) ∧ AnsT w.heap.size twoV2.1 w' a c ∧ Below w.heap.size w w' := by
  obtain ⟨w1, hw1⟩ : ∃ w1, w1 = w.alloc (.cells #[.slice none 0 0, .int .i64 0, .int .i64 0, .string { data := #[] }] 24) := ⟨_, rfl⟩
  have hb1 : Below w.heap.size w w1 := by rw [hw1]; exact (Below.refl _ _).alloc (Nat.le_refl _) _
  have HZ1 := hide (show VvAt w1 w.heap.size (.slice none 0 0) 0 0 [] by rw [hw1]; exact VvAt.new w _ 0 0 [])
  have HB1 := hide hb1
  have hs1 : w1.heap.size = w.heap.size + 1 := by rw [hw1]; simp
  have HS1 := hide hs1
  have hc := new_vn logS w1
  rw [twoV_new.1, show newV logS = ([[], [], [], []], 1, 0, logS) from twoV_new.2] at hc
  clear hs1 hb1
  go_enter Try.func8, Try.ntmps8
  go_wp2_with fail
  rw [← hw1]
  clear hw1
  refine hc.mono ?_
  rintro e w2 ⟨hans, b2⟩
  obtain ⟨a0, c0, rfl, hT0⟩ := hans.t rfl
  have HT0 := hide (show ∃ S, OwVw w2 (w.heap.size + 1) (.slice a0 4 c0) S ∧ lvs S = twoV0.1 from by
    obtain ⟨S, h1, h2⟩ := hT0
    exact ⟨S, h1.mono (by rw [HS1.out]; omega), h2⟩)
  have HZ2 := hide (HZ1.out.carry b2)
  have HB2 := hide (HB1.out.trans (b2.mono HB1.out.size))
  clear hc hans b2 hT0 HZ1 HB1 HS1
  obtain ⟨w3, hw3⟩ : ∃ w3, w3 = w2.alloc (.cells #[.slice a0 4 c0, .int .i64 1, .int .i64 0, .string (bs logS)] 24) := ⟨_, rfl⟩
  have hb3 : Below w2.heap.size w2 w3 := by rw [hw3]; exact (Below.refl _ _).alloc (Nat.le_refl _) _
  obtain ⟨A, hA⟩ : ∃ A, A = w2.heap.size := ⟨_, rfl⟩
  have HV := hide (show VvAt w3 A (.slice a0 4 c0) 1 0 logS by rw [hw3, hA]; exact VvAt.new w2 _ _ _ _)
  have HZ := hide (HZ2.out.carry hb3)
  have HB := hide (HB2.out.trans (hb3.mono HB2.out.size))
  have HT := hide (show ∃ S, OwVw w3 (w.heap.size + 1) (.slice a0 4 c0) S ∧ lvs S = twoV0.1 from by
    obtain ⟨S, h1, h2⟩ := HT0.out
    exact ⟨S, h1.carry hb3, h2⟩)
  have HAw := hide (show w.heap.size ≤ A by rw [hA]; exact HB2.out.size)
  have HAw2 := hide (show w.heap.size < A by rw [hA]; exact HZ2.out.lt)
  clear hb3 HT0 HZ2 HB2
  go_wp2_with fail
  have hw3' : w2.alloc (.cells #[.slice a0 4 c0, .int .i64 1, .int .i64 0, .string (bs logS)] 24) = w3 := hw3.symm
  try rw [hw3']
  try rw [← hA]
  clear hw3 hw3' hA
  have hK : Keeps (fun wx => VvAt wx A (.slice a0 4 c0) 1 0 logS ∧ VvAt wx w.heap.size (.slice none 0 0) 0 0 [] ∧ Below w.heap.size w wx) := fun u1 u2 h hb => ⟨h.1.carry hb, h.2.1.carry hb, h.2.2.trans (hb.mono h.2.2.size)⟩
  have hS0 : VvAt w3 A (.slice a0 4 c0) 1 0 logS ∧ VvAt w3 w.heap.size (.slice none 0 0) 0 0 [] ∧ Below w.heap.size w w3 := ⟨HV.out, HZ.out, HB.out⟩
  go_wp2_with fail
  refine regL_begin hK 6 (by kernel_rfl) hS0 ?_
  intro hS
  clear hS0
  have HTd := hide (show ∃ S, OwVw w3.drew (w.heap.size + 1) (.slice a0 4 c0) S ∧ lvs S = twoV0.1 from by
    obtain ⟨S, h1, h2⟩ := HT.out
    exact ⟨S, h1.carry (Below.refl _ _).drew, h2⟩)
  have hAd : A < w3.drew.heap.size := HV.out.lt
  clear HT HV HZ HB
  generalize w3.drew = wd at *
  refine regL_plan [0] (fuel := 7) (a' := ?qaa) (by kernel_rfl) (by kernel_rfl) (by kernel_rfl) ?qap hS ?qan
  case qap =>
    iterate 1 (apply Yl.cons rfl (by kernel_rfl); focus (rintro wx ⟨hx, _⟩; obtain ⟨v0, v1, v2, v3⟩ := hx.cells; go_simp; all_goals (with_reducible rfl)); try simp only [Act.put, List.setIfInBounds_toArray, List.set_cons_zero, List.set_cons_succ])
    exact Yl.nil
  try simp only [Act.put, List.setIfInBounds_toArray, List.set_cons_zero, List.set_cons_succ]
  have hct := (table_lw [97] [98] [100] wd).mono (R' := fun e wy => ∃ v, e = .returned v ∧ v = .agg #[.string (bs [97]), .int .i64 1, .int .i64 1, .string (bs [98]), .string (bs [100])] ∧ Below wd.heap.size wd wy) fun e wy h => ⟨_, h.1, rfl, h.2⟩
  refine regL_callg (i := 1) (R := fun v wy => v = .agg #[.string (bs [97]), .int .i64 1, .int .i64 1, .string (bs [98]), .string (bs [100])] ∧ Below wd.heap.size wd wy) rfl (by kernel_rfl) (by kernel_rfl) (by go_simp; first | done | ((repeat' apply And.intro) <;> rfl)) hct ?_
  rintro v9 wt ⟨rfl, hbt⟩
  have hSN := hK _ _ hS hbt
  refine ⟨hSN, ?_⟩
  clear hS hct
  have hS := hSN
  clear hSN
  try simp only [Act.put, List.setIfInBounds_toArray, List.set_cons_zero, List.set_cons_succ]
  have hca := add_lw (w := wt) HTd.out hbt twoA (by decide) twoV_a (by decide)
  refine regL_callg (i := 2) (R := fun v wy => ∃ a1 c1, v = .tuple #[.agg #[.slice a1 4 c1, .int .i64 1, .int .i64 0, .string (bs logS)], .int .i64 0] ∧ AnsT wt.heap.size twoV1.1 wy a1 c1 ∧ Below wt.heap.size wt wy) rfl (by kernel_rfl) (by kernel_rfl) (by go_simp; first | done | ((repeat' apply And.intro) <;> rfl)) hca ?_
  rintro v9 wa ⟨a1, c1, rfl, hT1, hba⟩
  have hSN := hK _ _ hS hba
  refine ⟨hSN, ?_⟩
  have hsz := hbt.size
  have hsw : w.heap.size + 1 ≤ wt.heap.size := by have := hS.2.1.lt; have := hS.2.2.size; omega
  clear hS hca
  have hS := hSN
  clear hSN
  try simp only [Act.put, List.setIfInBounds_toArray, List.set_cons_zero, List.set_cons_succ]
  refine regL_plan [3, 4] (fuel := 3) (a' := ?qab) (by kernel_rfl) (by kernel_rfl) (by kernel_rfl) ?qabp hS ?qabn
  case qabp =>
    iterate 2 (apply Yl.cons rfl (by kernel_rfl); focus (rintro wx _; go_simp; all_goals (with_reducible rfl)); try simp only [Act.put, List.setIfInBounds_toArray, List.set_cons_zero, List.set_cons_succ])
    exact Yl.nil
  try simp only [Act.put, List.setIfInBounds_toArray, List.set_cons_zero, List.set_cons_succ]
  refine regL_takeP (i := 5) (v := ?qav) rfl (by kernel_rfl) (by kernel_rfl) (by kernel_rfl) (by kernel_rfl) (by kernel_rfl) ?qay (fun _ => hS) ?qar
  case qay => (intro wx; go_simp; all_goals (with_reducible rfl))
  try simp only [Act.put, List.setIfInBounds_toArray, List.set_cons_zero, List.set_cons_succ]
  obtain ⟨r0, r1, r2, r3⟩ := hS.1.cells
  have f0 := hS.1.fz 0
  have f1 := hS.1.fz 1
  have f2 := hS.1.fz 2
  have f3 := hS.1.fz 3
  have hp9 : VvAt (set4v wa A (.slice a1 4 c1) (.int .i64 1) (.int .i64 0) (.string (bs logS))) A (.slice a1 4 c1) 1 0 logS := VvAt.put (v' := .slice a1 4 c1) (nx' := 1) (sq' := 0) (lg' := logS) hS.1
  have HBN := hide (show Below w.heap.size w (set4v wa A (.slice a1 4 c1) (.int .i64 1) (.int .i64 0) (.string (bs logS))) from below_set4v hS.2.2 HAw.out _ _ _ _)
  have HTN := hide (show ∃ S, OwVw (set4v wa A (.slice a1 4 c1) (.int .i64 1) (.int .i64 0) (.string (bs logS))) (w.heap.size + 1) (.slice a1 4 c1) S ∧ lvs S = twoV1.1 from by
    obtain ⟨S, h1, h2⟩ := hT1
    exact ⟨S, OwVw.mono (base := wt.heap.size) (h1.set4v (by omega) _ _ _ _) hsw, h2⟩)
  have HZN := hide (show VvAt (set4v wa A (.slice a1 4 c1) (.int .i64 1) (.int .i64 0) (.string (bs logS))) w.heap.size (.slice none 0 0) 0 0 [] from by
    unfold VvAt set4v
    have hne : w.heap.size ≠ A := by have := HAw2.out; omega
    rw [heap_setCell_other _ ⟨A, 3, none⟩ w.heap.size _ hne, heap_setCell_other _ ⟨A, 2, none⟩ w.heap.size _ hne, heap_setCell_other _ ⟨A, 1, none⟩ w.heap.size _ hne, heap_setCell_other _ ⟨A, 0, none⟩ w.heap.size _ hne]
    exact hS.2.1)
  obtain ⟨w5, hw5⟩ : ∃ w5, w5 = set4v wa A (.slice a1 4 c1) (.int .i64 1) (.int .i64 0) (.string (bs logS)) := ⟨_, rfl⟩
  rw [← hw5] at hp9 HBN HTN HZN
  unfold set4v at hw5
  have HVN := hide hp9
  clear hS hp9 hT1 hba hbt hAd hsz hsw HTd
  refine regL_last (i := 6) (w' := w5) rfl (by kernel_rfl) (by kernel_rfl) (by kernel_rfl) (by rw [hw5]; go_simp) ?_
  try simp only [Act.put, List.setIfInBounds_toArray, List.set_cons_zero, List.set_cons_succ]
  refine regL_run (i := 7) (v := .int .i64 0) (w' := w5) rfl (by kernel_rfl) (by kernel_rfl) (by go_simp) (fun h => absurd h (by decide +kernel)) ?_
  try simp only [Act.put, List.setIfInBounds_toArray, List.set_cons_zero, List.set_cons_succ]
  refine wpAnyL_done (by kernel_rfl) ?_ _
  refine NoPanic.normal ?_
  clear r0 r1 r2 r3 f0 f1 f2 f3 hw5 hK
  try clear wa
  have HV := HVN
  have HZ := HZN
  have HB := HBN
  have HT := HTN
  clear HVN HZN HBN HTN
  have hK : Keeps (fun wx => VvAt wx A (.slice a1 4 c1) 1 0 logS ∧ VvAt wx w.heap.size (.slice none 0 0) 0 0 [] ∧ Below w.heap.size w wx) := fun u1 u2 h hb => ⟨h.1.carry hb, h.2.1.carry hb, h.2.2.trans (hb.mono h.2.2.size)⟩
  have hS0 : VvAt w5 A (.slice a1 4 c1) 1 0 logS ∧ VvAt w5 w.heap.size (.slice none 0 0) 0 0 [] ∧ Below w.heap.size w w5 := ⟨HV.out, HZ.out, HB.out⟩
  go_wp2_with fail
  refine regL_begin hK 6 (by kernel_rfl) hS0 ?_
  intro hS
  clear hS0
  have HTd := hide (show ∃ S, OwVw w5.drew (w.heap.size + 1) (.slice a1 4 c1) S ∧ lvs S = twoV1.1 from by
    obtain ⟨S, h1, h2⟩ := HT.out
    exact ⟨S, h1.carry (Below.refl _ _).drew, h2⟩)
  have hAd : A < w5.drew.heap.size := HV.out.lt
  clear HT HV HZ HB
  generalize w5.drew = wd at *
  refine regL_plan [0] (fuel := 7) (a' := ?qba) (by kernel_rfl) (by kernel_rfl) (by kernel_rfl) ?qbp hS ?qbn
  case qbp =>
    iterate 1 (apply Yl.cons rfl (by kernel_rfl); focus (rintro wx ⟨hx, _⟩; obtain ⟨v0, v1, v2, v3⟩ := hx.cells; go_simp; all_goals (with_reducible rfl)); try simp only [Act.put, List.setIfInBounds_toArray, List.set_cons_zero, List.set_cons_succ])
    exact Yl.nil
  try simp only [Act.put, List.setIfInBounds_toArray, List.set_cons_zero, List.set_cons_succ]
  have hct := (table_lw [98] [99] [102] wd).mono (R' := fun e wy => ∃ v, e = .returned v ∧ v = .agg #[.string (bs [98]), .int .i64 1, .int .i64 1, .string (bs [99]), .string (bs [102])] ∧ Below wd.heap.size wd wy) fun e wy h => ⟨_, h.1, rfl, h.2⟩
  refine regL_callg (i := 1) (R := fun v wy => v = .agg #[.string (bs [98]), .int .i64 1, .int .i64 1, .string (bs [99]), .string (bs [102])] ∧ Below wd.heap.size wd wy) rfl (by kernel_rfl) (by kernel_rfl) (by go_simp; first | done | ((repeat' apply And.intro) <;> rfl)) hct ?_
  rintro v9 wt ⟨rfl, hbt⟩
  have hSN := hK _ _ hS hbt
  refine ⟨hSN, ?_⟩
  clear hS hct
  have hS := hSN
  clear hSN
  try simp only [Act.put, List.setIfInBounds_toArray, List.set_cons_zero, List.set_cons_succ]
  have hca := add_lw (w := wt) HTd.out hbt twoB (by decide) twoV_b (by decide)
  refine regL_callg (i := 2) (R := fun v wy => ∃ a2 c2, v = .tuple #[.agg #[.slice a2 4 c2, .int .i64 1, .int .i64 0, .string (bs logS)], .int .i64 0] ∧ AnsT wt.heap.size twoV2.1 wy a2 c2 ∧ Below wt.heap.size wt wy) rfl (by kernel_rfl) (by kernel_rfl) (by go_simp; first | done | ((repeat' apply And.intro) <;> rfl)) hca ?_
  rintro v9 wa ⟨a2, c2, rfl, hT1, hba⟩
  have hSN := hK _ _ hS hba
  refine ⟨hSN, ?_⟩
  have hsz := hbt.size
  have hsw : w.heap.size + 1 ≤ wt.heap.size := by have := hS.2.1.lt; have := hS.2.2.size; omega
  clear hS hca
  have hS := hSN
  clear hSN
  try simp only [Act.put, List.setIfInBounds_toArray, List.set_cons_zero, List.set_cons_succ]
  refine regL_plan [3, 4] (fuel := 3) (a' := ?qbb) (by kernel_rfl) (by kernel_rfl) (by kernel_rfl) ?qbbp hS ?qbbn
  case qbbp =>
    iterate 2 (apply Yl.cons rfl (by kernel_rfl); focus (rintro wx _; go_simp; all_goals (with_reducible rfl)); try simp only [Act.put, List.setIfInBounds_toArray, List.set_cons_zero, List.set_cons_succ])
    exact Yl.nil
  try simp only [Act.put, List.setIfInBounds_toArray, List.set_cons_zero, List.set_cons_succ]
  refine regL_takeP (i := 5) (v := ?qbv) rfl (by kernel_rfl) (by kernel_rfl) (by kernel_rfl) (by kernel_rfl) (by kernel_rfl) ?qby (fun _ => hS) ?qbr
  case qby => (intro wx; go_simp; all_goals (with_reducible rfl))
  try simp only [Act.put, List.setIfInBounds_toArray, List.set_cons_zero, List.set_cons_succ]
  obtain ⟨r0, r1, r2, r3⟩ := hS.1.cells
  have f0 := hS.1.fz 0
  have f1 := hS.1.fz 1
  have f2 := hS.1.fz 2
  have f3 := hS.1.fz 3
  have hp9 : VvAt (set4v wa A (.slice a2 4 c2) (.int .i64 1) (.int .i64 0) (.string (bs logS))) A (.slice a2 4 c2) 1 0 logS := VvAt.put (v' := .slice a2 4 c2) (nx' := 1) (sq' := 0) (lg' := logS) hS.1
  have HBN := hide (show Below w.heap.size w (set4v wa A (.slice a2 4 c2) (.int .i64 1) (.int .i64 0) (.string (bs logS))) from below_set4v hS.2.2 HAw.out _ _ _ _)
  have HTN := hide (show ∃ S, OwVw (set4v wa A (.slice a2 4 c2) (.int .i64 1) (.int .i64 0) (.string (bs logS))) (w.heap.size + 1) (.slice a2 4 c2) S ∧ lvs S = twoV2.1 from by
    obtain ⟨S, h1, h2⟩ := hT1
    exact ⟨S, OwVw.mono (base := wt.heap.size) (h1.set4v (by omega) _ _ _ _) hsw, h2⟩)
  have HZN := hide (show VvAt (set4v wa A (.slice a2 4 c2) (.int .i64 1) (.int .i64 0) (.string (bs logS))) w.heap.size (.slice none 0 0) 0 0 [] from by
    unfold VvAt set4v
    have hne : w.heap.size ≠ A := by have := HAw2.out; omega
    rw [heap_setCell_other _ ⟨A, 3, none⟩ w.heap.size _ hne, heap_setCell_other _ ⟨A, 2, none⟩ w.heap.size _ hne, heap_setCell_other _ ⟨A, 1, none⟩ w.heap.size _ hne, heap_setCell_other _ ⟨A, 0, none⟩ w.heap.size _ hne]
    exact hS.2.1)
  obtain ⟨w7, hw7⟩ : ∃ w7, w7 = set4v wa A (.slice a2 4 c2) (.int .i64 1) (.int .i64 0) (.string (bs logS)) := ⟨_, rfl⟩
  rw [← hw7] at hp9 HBN HTN HZN
  unfold set4v at hw7
  have HVN := hide hp9
  clear hS hp9 hT1 hba hbt hAd hsz hsw HTd
  refine regL_last (i := 6) (w' := w7) rfl (by kernel_rfl) (by kernel_rfl) (by kernel_rfl) (by rw [hw7]; go_simp) ?_
  try simp only [Act.put, List.setIfInBounds_toArray, List.set_cons_zero, List.set_cons_succ]
  refine regL_run (i := 7) (v := .int .i64 0) (w' := w7) rfl (by kernel_rfl) (by kernel_rfl) (by go_simp) (fun h => absurd h (by decide +kernel)) ?_
  try simp only [Act.put, List.setIfInBounds_toArray, List.set_cons_zero, List.set_cons_succ]
  refine wpAnyL_done (by kernel_rfl) ?_ _
  refine NoPanic.normal ?_
  clear r0 r1 r2 r3 f0 f1 f2 f3 hw7 hK
  try clear wa
  have hrow : ∃ b off ax cx, a2 = some ⟨b, off, none⟩ ∧ w7.cell? ⟨b, off, none⟩ = some (.slice ax 2 cx) ∧ w.heap.size + 1 ≤ b := by
    obtain ⟨S, h1, h2⟩ := HTN.out
    have h4 : S.length = 4 := by rw [← lvs_len, h2]; rfl
    obtain ⟨b, off, ax, nx', cx, e, q, _, hn⟩ := h1.rd.cells (Below.refl _ _) 0 (by omega)
    have h5 : (S[0]'(by omega)).2 = [twoA, twoB] := by
      have h6 : (lvs S)[0]? = (twoV2.1)[0]? := by rw [h2]
      rw [List.getElem?_eq_getElem (by rw [lvs_len]; omega), lvs_get (by omega)] at h6
      simpa [twoV2] using h6
    rw [h5] at hn
    have hn2 : nx' = 2 := hn
    subst hn2
    subst e
    rcases h1.1.2 with ⟨e, _⟩ | ⟨g, cap, cur, e, hb, _⟩
    · cases e
    · injection e with e1 e2 e3
      injection e1 with e1
      injection e1 with e1 e4
      subst e1
      exact ⟨_, _, ax, cx, rfl, by simpa using q, hb⟩
  obtain ⟨b, off, ax, cx, rfl, hcell, hbb⟩ := hrow
  have hK : Keeps (fun wx => VvAt wx A (.slice (some ⟨b, off, none⟩) 4 c2) 1 0 logS ∧ (∃ v n s l, VvAt wx w.heap.size v n s l) ∧ wx.cell? ⟨b, off, none⟩ = some (.slice ax 2 cx) ∧ Below w.heap.size w wx) := fun u1 u2 h hb => ⟨h.1.carry hb, (h.2.1).elim fun v h => h.elim fun n h => h.elim fun s h => h.elim fun l h => ⟨v, n, s, l, h.carry hb⟩, by rw [hb.cell (World.block_lt_of_cell? u1 _ h.2.2.1)]; exact h.2.2.1, h.2.2.2.trans (hb.mono h.2.2.2.size)⟩
  have hS0 : VvAt w7 A (.slice (some ⟨b, off, none⟩) 4 c2) 1 0 logS ∧ (∃ v n s l, VvAt w7 w.heap.size v n s l) ∧ w7.cell? ⟨b, off, none⟩ = some (.slice ax 2 cx) ∧ Below w.heap.size w w7 := ⟨HVN.out, ⟨_, _, _, _, HZN.out⟩, hcell, HBN.out⟩
  clear hcell
  go_wp2_with fail
  refine reg_begin hK (by kernel_rfl) hS0 ?_
  intro hS
  clear hS0
  have HTd := hide (show ∃ S, OwVw w7.drew (w.heap.size + 1) (.slice (some ⟨b, off, none⟩) 4 c2) S ∧ lvs S = twoV2.1 from by
    obtain ⟨S, h1, h2⟩ := HTN.out
    exact ⟨S, h1.carry (Below.refl _ _).drew, h2⟩)
  clear HTN HVN HZN HBN
  generalize w7.drew = wd at *
  refine reg_plan [0, 1, 2, 3, 4, 5, 6, 7, 8, 9, 10, 11, 12, 13, 14, 15, 16, 17, 18, 19, 20, 21, 22, 23, 24] (fuel := 2) (a' := ?qza1) (by kernel_rfl) (by kernel_rfl) (by kernel_rfl) ?qzp1 hS ?qzn1
  case qzp1 =>
    iterate 25 (apply Yl.cons rfl (by kernel_rfl); focus (rintro wx ⟨hx, _, x3, _⟩; obtain ⟨v0, v1, v2, v3⟩ := hx.cells; go_simp; all_goals (with_reducible rfl)); try simp only [Act.put, List.setIfInBounds_toArray, List.set_cons_zero, List.set_cons_succ])
    exact Yl.nil
  obtain ⟨vv, vn, vs, vl, hvb⟩ := hS.2.1
  obtain ⟨r0, r1, r2, r3⟩ := hvb.cells
  have f0 := hvb.fz 0
  have f1 := hvb.fz 1
  have f2 := hvb.fz 2
  have f3 := hvb.fz 3
  have hp9 : VvAt (set4v wd w.heap.size (.slice (some ⟨b, off, none⟩) 4 c2) (.int .i64 1) (.int .i64 0) (.string (bs logS))) w.heap.size (.slice (some ⟨b, off, none⟩) 4 c2) 1 0 logS := VvAt.put (v' := .slice (some ⟨b, off, none⟩) 4 c2) (nx' := 1) (sq' := 0) (lg' := logS) hvb
  have hO9 : ∃ S, OwVw (set4v wd w.heap.size (.slice (some ⟨b, off, none⟩) 4 c2) (.int .i64 1) (.int .i64 0) (.string (bs logS))) w.heap.size (.slice (some ⟨b, off, none⟩) 4 c2) S ∧ lvs S = twoV2.1 := by
    obtain ⟨S, h1, h2⟩ := HTd.out
    exact ⟨S, OwVw.mono (base := w.heap.size + 1) (h1.set4v (by omega) _ _ _ _) (by omega), h2⟩
  have hS9 : VvAt (set4v wd w.heap.size (.slice (some ⟨b, off, none⟩) 4 c2) (.int .i64 1) (.int .i64 0) (.string (bs logS))) A (.slice (some ⟨b, off, none⟩) 4 c2) 1 0 logS ∧ (∃ v n s l, VvAt (set4v wd w.heap.size (.slice (some ⟨b, off, none⟩) 4 c2) (.int .i64 1) (.int .i64 0) (.string (bs logS))) w.heap.size v n s l) ∧ (set4v wd w.heap.size (.slice (some ⟨b, off, none⟩) 4 c2) (.int .i64 1) (.int .i64 0) (.string (bs logS))).cell? ⟨b, off, none⟩ = some (.slice ax 2 cx) ∧ Below w.heap.size w (set4v wd w.heap.size (.slice (some ⟨b, off, none⟩) 4 c2) (.int .i64 1) (.int .i64 0) (.string (bs logS))) := by
    have hne : A ≠ w.heap.size := by have := HAw2.out; omega
    have hnb : b ≠ w.heap.size := by omega
    refine ⟨?_, ⟨_, _, _, _, hp9⟩, ?_, below_set4v hS.2.2.2 (Nat.le_refl _) _ _ _ _⟩
    · unfold VvAt set4v
      rw [heap_setCell_other _ ⟨w.heap.size, 3, none⟩ A _ hne, heap_setCell_other _ ⟨w.heap.size, 2, none⟩ A _ hne, heap_setCell_other _ ⟨w.heap.size, 1, none⟩ A _ hne, heap_setCell_other _ ⟨w.heap.size, 0, none⟩ A _ hne]
      exact hS.1
    · unfold set4v World.cell?
      rw [heap_setCell_other _ ⟨w.heap.size, 3, none⟩ b _ hnb, heap_setCell_other _ ⟨w.heap.size, 2, none⟩ b _ hnb, heap_setCell_other _ ⟨w.heap.size, 1, none⟩ b _ hnb, heap_setCell_other _ ⟨w.heap.size, 0, none⟩ b _ hnb]
      exact hS.2.2.1
  obtain ⟨w9, hw9⟩ : ∃ w9, w9 = set4v wd w.heap.size (.slice (some ⟨b, off, none⟩) 4 c2) (.int .i64 1) (.int .i64 0) (.string (bs logS)) := ⟨_, rfl⟩
  rw [← hw9] at hp9 hO9 hS9
  unfold set4v at hw9
  refine reg_unit (i := 25) (w' := w9) rfl (by kernel_rfl) (by kernel_rfl) (by rw [hw9]; go_simp) hS9 ?_
  have HP9 := hide hp9
  have HO9 := hide hO9
  clear hS hvb hp9 hO9 hw9 r0 r1 r2 r3 f0 f1 f2 f3
  have hS := hS9
  clear hS9
  try simp only [Act.put, List.setIfInBounds_toArray, List.set_cons_zero, List.set_cons_succ]
  refine reg_plan [26] (fuel := 0) (a' := ?qza2) (by kernel_rfl) (by kernel_rfl) (by kernel_rfl) ?qzp2 hS ?qzn2
  case qzp2 =>
    iterate 1 (apply Yl.cons rfl (by kernel_rfl); focus (rintro wx ⟨hx, _, x3, _⟩; obtain ⟨v0, v1, v2, v3⟩ := hx.cells; go_simp; all_goals (with_reducible rfl)); try simp only [Act.put, List.setIfInBounds_toArray, List.set_cons_zero, List.set_cons_succ])
    exact Yl.nil
  refine wpAnyH_done (by kernel_rfl) ?_ _
  refine NoPanic.normal ?_
  try simp only [Act.put, List.setIfInBounds_toArray, List.set_cons_zero, List.set_cons_succ]
  have HB9 := hide hS.2.2.2
  clear hS hK
  obtain ⟨z0, z1, z2, z3⟩ := HP9.out.cells
  go_wp2
  refine bodyPost_ret (v := .tuple #[.agg #[.slice (some ⟨b, off, none⟩) 4 c2, .int .i64 1, .int .i64 0, .string (bs logS)], .bool true]) ?_ rfl ⟨_, _, rfl, HO9.out, HB9.out⟩
  simp [results, Try.results8, go_sem, *]
end Go.Proofs.Ytepfojlclgnicaa
