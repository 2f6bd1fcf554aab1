/-
  The chapter's examples: what 'alive' and RoomNames answer.
-/
import Derived.Test.YtkneeoglinhgdaaRmLaw
namespace Go.Proofs.Ytkneeoglinhgdaa
open Go.RowKit
set_option linter.unusedVariables false
set_option linter.unusedSimpArgs false

def wfB (x : Ex) : Bool := decide (-9223372036854775808 ≤ x.1) && decide (x.1 ≤ 9223372036854775807) && decide (-9223372036854775808 ≤ x.2) && decide (x.2 ≤ 9223372036854775807)
theorem wf_all {l : List Ex} (h : l.all wfB = true) : ∀ x ∈ l, wfX x := by
  rw [List.all_eq_true] at h
  intro x hx
  have := h x hx
  simp only [wfB, Bool.and_eq_true, decide_eq_true_eq] at this
  exact ⟨this.1.1.1, this.1.1.2, this.1.2, this.2⟩
/-- A literal of numbers is read as they stand. -/
theorem rdI_lit (w : World) (l : List Int) (n : Nat) (hn : n = l.length) (h : l.length ≤ 1000) (arr : Array Value) (ha : arr = (cellsI l).toArray) : RdI (w.alloc (.cells arr 3)) (.slice (some ⟨w.heap.size, 0, none⟩) n n) l := by
  subst ha hn
  refine .inr ⟨w.heap.size, 0, l.length, rfl, Nat.le_refl _, by unfold maxLen; omega, fun j hj => ?_⟩
  have := World.news_of_block (w := w.alloc (.cells (cellsI l).toArray 3)) (heap_alloc_new w _) j (.int .i64 l[j]) (by simp [cellsI, List.getElem?_eq_getElem hj])
  simpa [Addr.add_lit] using this
/-- 'of' of a literal. -/
theorem of_lit (l : List Int) (n : Nat) (arr : Array Value) (w : World) (hn : n = l.length) (hl : n ≤ 1000) (ha : arr = (cellsI l).toArray) :
    Calls Try.prog 8 #[.slice (some ⟨w.heap.size, 0, none⟩) n n] (w.alloc (.cells arr 3)) fun e w' => ∃ a c, e = .returned (.slice a (ofX l).length c) ∧ OwE w' w.heap.size (.slice a (ofX l).length c) (ofX l) ∧ Below w.heap.size w w' := by
  refine (of_any _ n n l _ (rdI_lit w l n hn (by omega) arr ha) hn hl).mono ?_
  rintro e w' ⟨v, rfl, h1, h2⟩
  obtain ⟨a, c, rfl⟩ := h1.form
  exact ⟨a, c, rfl, h1.mono (by simp), ((Below.refl _ _).alloc (Nat.le_refl _) _).trans (h2.mono (by simp))⟩

set_option maxHeartbeats 1000000 in
theorem alive4_any (w : World) : Calls Try.prog 13 #[] w fun e w' => e = .returned (.bool true) ∧ Below w.heap.size w w' := by
  go_enter Try.func13, Try.ntmps13
  go_wp2_with fail
  refine (of_lit [4, 2, 5, 3] 4 _ w rfl (by decide) rfl).mono ?_
  rintro e w1 ⟨a1, c1, rfl, o1, b1⟩
  go_wp2_with fail
  refine (take_any 2 10 3 a1 _ c1 _ w1 o1.rd rfl (wf_all (by kernel_rfl))).mono ?_
  rintro e w2 ⟨v2, rfl, o2, b2⟩
  obtain ⟨a2, c2, rfl⟩ := o2.form
  have HT := hide (show takeE 2 10 (ofX [4, 2, 5, 3]) 3 = 0 by kernel_rfl)
  have HL := hide (show takeL 2 10 (ofX [4, 2, 5, 3]) 3 = ofX [2, 2, 8, 1] by kernel_rfl)
  rw [HT.out]
  generalize takeE 2 10 (ofX [4, 2, 5, 3]) 3 = E at *
  go_wp2_with fail
  refine (of_lit [2, 2, 8, 1] 4 _ w2 rfl (by decide) rfl).mono ?_
  rintro e w3 ⟨a3, c3, rfl, o3, b3⟩
  go_wp2_with fail
  refine (same_ext a2 a3 _ c2 _ c3 _ _ w3 (o2.rd.carry b3) o3.rd rfl rfl).mono ?_
  rintro e w4 ⟨rfl, b4⟩
  rw [HL.out]
  go_wp2
  go_ret
  exact ⟨rfl, b1.trans ((b2.mono b1.size).trans ((b3.mono (Nat.le_trans b1.size b2.size)).trans (b4.mono (Nat.le_trans b1.size (Nat.le_trans b2.size b3.size)))))⟩

set_option maxHeartbeats 4000000 in
set_option maxRecDepth 100000 in
theorem roomNames_any (w0 : World) : Calls Try.prog 3 #[] w0 fun e w' => e = .returned (.bool true) ∧ Below w0.heap.size w0 w' := by
  go_enter Try.func3, Try.ntmps3
  go_wp2_with fail
  refine (of_lit [4, 2, 5, 3, 9, 9] 6 _ w0 rfl (by decide) rfl).mono ?_
  rintro e w1 ⟨a1, c1, rfl, o1, b1⟩
  have hb1 : Below w0.heap.size w0 w1 := b1
  clear b1
  go_wp2_with fail
  refine (free_any 2 10 a1 _ c1 _ w1 o1.rd rfl (wf_all (by kernel_rfl))).mono ?_
  rintro e w2 ⟨v2, rfl, o2, b2⟩
  obtain ⟨a2, c2, rfl⟩ := o2.form
  rw [show freeE 2 10 (ofX [4, 2, 5, 3, 9, 9]) = 0 by kernel_rfl]
  rw [show freeL 2 10 (ofX [4, 2, 5, 3, 9, 9]) = ofX [2, 2, 8, 1] by kernel_rfl] at *
  replace o1 := o1.carry (b2.mono (Nat.le_refl _))
  have hb2 : Below w0.heap.size w0 w2 := hb1.trans (b2.mono hb1.size)
  clear hb1
  clear b2
  clear o1
  go_wp2_with fail
  refine (of_lit [4, 2, 5, 3] 4 _ w2 rfl (by decide) rfl).mono ?_
  rintro e w3 ⟨a3, c3, rfl, o3, b3⟩
  replace o2 := o2.carry (b3.mono (Nat.le_refl _))
  have hb3 : Below w0.heap.size w0 w3 := hb2.trans (b3.mono hb2.size)
  clear hb2
  clear b3
  go_wp2_with fail
  refine (take_any 2 10 5 a3 _ c3 _ w3 o3.rd rfl (wf_all (by kernel_rfl))).mono ?_
  rintro e w4 ⟨v4, rfl, o4, b4⟩
  obtain ⟨a4, c4, rfl⟩ := o4.form
  rw [show takeE 2 10 (ofX [4, 2, 5, 3]) 5 = 40 by kernel_rfl]
  rw [show takeL 2 10 (ofX [4, 2, 5, 3]) 5 = ofX [] by kernel_rfl] at *
  replace o2 := o2.carry (b4.mono (Nat.le_refl _))
  replace o3 := o3.carry (b4.mono (Nat.le_refl _))
  have hb4 : Below w0.heap.size w0 w4 := hb3.trans (b4.mono hb3.size)
  clear hb3
  clear b4
  clear o3
  clear o4
  go_wp2_with fail
  refine (of_lit [4, 2, 5, 3] 4 _ w4 rfl (by decide) rfl).mono ?_
  rintro e w5 ⟨a5, c5, rfl, o5, b5⟩
  replace o2 := o2.carry (b5.mono (Nat.le_refl _))
  have hb5 : Below w0.heap.size w0 w5 := hb4.trans (b5.mono hb4.size)
  clear hb4
  clear b5
  go_wp2_with fail
  refine (take_any 2 10 4 a5 _ c5 _ w5 o5.rd rfl (wf_all (by kernel_rfl))).mono ?_
  rintro e w6 ⟨v6, rfl, o6, b6⟩
  obtain ⟨a6, c6, rfl⟩ := o6.form
  rw [show takeE 2 10 (ofX [4, 2, 5, 3]) 4 = 0 by kernel_rfl]
  rw [show takeL 2 10 (ofX [4, 2, 5, 3]) 4 = ofX [2, 2, 8, 2] by kernel_rfl] at *
  replace o2 := o2.carry (b6.mono (Nat.le_refl _))
  replace o5 := o5.carry (b6.mono (Nat.le_refl _))
  have hb6 : Below w0.heap.size w0 w6 := hb5.trans (b6.mono hb5.size)
  clear hb5
  clear b6
  clear o5
  go_wp2_with fail
  refine (of_lit [4, 2, 1, 1] 4 _ w6 rfl (by decide) rfl).mono ?_
  rintro e w7 ⟨a7, c7, rfl, o7, b7⟩
  replace o2 := o2.carry (b7.mono (Nat.le_refl _))
  replace o6 := o6.carry (b7.mono (Nat.le_refl _))
  have hb7 : Below w0.heap.size w0 w7 := hb6.trans (b7.mono hb6.size)
  clear hb6
  clear b7
  go_wp2_with fail
  refine (blocks_ext a7 _ c7 _ w7 o7.rd rfl (wf_all (by kernel_rfl))).mono ?_
  rintro e w8 ⟨v8, rfl, o8, b8⟩
  rw [show chkX (ofX [4, 2, 1, 1]) = 0 by kernel_rfl]
  rw [show blocksR (ofX [4, 2, 1, 1]) = [4, 5, 1] by kernel_rfl] at o8
  replace o8 := o8.rd
  obtain ⟨a8, c8, rfl⟩ := o8.form
  replace o2 := o2.carry (b8.mono (Nat.le_refl _))
  replace o6 := o6.carry (b8.mono (Nat.le_refl _))
  replace o7 := o7.carry (b8.mono (Nat.le_refl _))
  have hb8 : Below w0.heap.size w0 w8 := hb7.trans (b8.mono hb7.size)
  clear hb7
  clear b8
  clear o7
  go_wp2_with fail
  refine (free_any 3 2 none 0 0 [] w8 (.inl ⟨rfl, .inl rfl⟩) rfl (by simp)).mono ?_
  rintro e w9 ⟨v9, rfl, o9, b9⟩
  obtain ⟨a9, c9, rfl⟩ := o9.form
  rw [show freeE 3 2 [] = 2 by kernel_rfl]
  rw [show freeL 3 2 [] = ofX [] by kernel_rfl] at *
  replace o2 := o2.carry (b9.mono (Nat.le_refl _))
  replace o6 := o6.carry (b9.mono (Nat.le_refl _))
  replace o8 := o8.carry (b9.mono (Nat.le_refl _))
  have hb9 : Below w0.heap.size w0 w9 := hb8.trans (b9.mono hb8.size)
  clear hb8
  clear b9
  clear o9
  go_wp2_with fail
  refine (take_any 0 9 0 none 0 0 [] w9 (.inl ⟨rfl, .inl rfl⟩) rfl (by simp)).mono ?_
  rintro e w10 ⟨v10, rfl, o10, b10⟩
  obtain ⟨a10, c10, rfl⟩ := o10.form
  rw [show takeE 0 9 [] 0 = 2 by kernel_rfl]
  rw [show takeL 0 9 [] 0 = ofX [] by kernel_rfl] at *
  replace o2 := o2.carry (b10.mono (Nat.le_refl _))
  replace o6 := o6.carry (b10.mono (Nat.le_refl _))
  replace o8 := o8.carry (b10.mono (Nat.le_refl _))
  have hb10 : Below w0.heap.size w0 w10 := hb9.trans (b10.mono hb9.size)
  clear hb9
  clear b10
  clear o10
  go_wp2_with fail
  refine (of_lit [4, 2, 1, 1] 4 _ w10 rfl (by decide) rfl).mono ?_
  rintro e w11 ⟨a11, c11, rfl, o11, b11⟩
  replace o2 := o2.carry (b11.mono (Nat.le_refl _))
  replace o6 := o6.carry (b11.mono (Nat.le_refl _))
  replace o8 := o8.carry (b11.mono (Nat.le_refl _))
  have hb11 : Below w0.heap.size w0 w11 := hb10.trans (b11.mono hb10.size)
  clear hb10
  clear b11
  go_wp2_with fail
  refine (many_ext a11 _ c11 _ w11 o11.rd rfl (wf_all (by kernel_rfl))).mono ?_
  rintro e w12 ⟨rfl, b12⟩
  rw [show manyR (ofX [4, 2, 1, 1]) = 3 by kernel_rfl]
  rw [show chkX (ofX [4, 2, 1, 1]) = 0 by kernel_rfl]
  replace o2 := o2.carry (b12.mono (Nat.le_refl _))
  replace o6 := o6.carry (b12.mono (Nat.le_refl _))
  replace o8 := o8.carry (b12.mono (Nat.le_refl _))
  replace o11 := o11.carry (b12.mono (Nat.le_refl _))
  have hb12 : Below w0.heap.size w0 w12 := hb11.trans (b12.mono hb11.size)
  clear hb11
  clear b12
  clear o11
  go_wp2_with fail
  refine (of_lit [4, 2, 5, 3] 4 _ w12 rfl (by decide) rfl).mono ?_
  rintro e w13 ⟨a13, c13, rfl, o13, b13⟩
  replace o2 := o2.carry (b13.mono (Nat.le_refl _))
  replace o6 := o6.carry (b13.mono (Nat.le_refl _))
  replace o8 := o8.carry (b13.mono (Nat.le_refl _))
  have hb13 : Below w0.heap.size w0 w13 := hb12.trans (b13.mono hb12.size)
  clear hb12
  clear b13
  go_wp2_with fail
  refine (check_ext a13 _ c13 _ w13 o13.rd rfl (wf_all (by kernel_rfl))).mono ?_
  rintro e w14 ⟨rfl, b14⟩
  rw [show chkX (ofX [4, 2, 5, 3]) = 8 by kernel_rfl]
  replace o2 := o2.carry (b14.mono (Nat.le_refl _))
  replace o6 := o6.carry (b14.mono (Nat.le_refl _))
  replace o8 := o8.carry (b14.mono (Nat.le_refl _))
  replace o13 := o13.carry (b14.mono (Nat.le_refl _))
  have hb14 : Below w0.heap.size w0 w14 := hb13.trans (b14.mono hb13.size)
  clear hb13
  clear b14
  clear o13
  go_wp2_with fail
  refine (of_lit [4, 2, 6, 1] 4 _ w14 rfl (by decide) rfl).mono ?_
  rintro e w15 ⟨a15, c15, rfl, o15, b15⟩
  replace o2 := o2.carry (b15.mono (Nat.le_refl _))
  replace o6 := o6.carry (b15.mono (Nat.le_refl _))
  replace o8 := o8.carry (b15.mono (Nat.le_refl _))
  have hb15 : Below w0.heap.size w0 w15 := hb14.trans (b15.mono hb14.size)
  clear hb14
  clear b15
  go_wp2_with fail
  refine (check_ext a15 _ c15 _ w15 o15.rd rfl (wf_all (by kernel_rfl))).mono ?_
  rintro e w16 ⟨rfl, b16⟩
  rw [show chkX (ofX [4, 2, 6, 1]) = 0 by kernel_rfl]
  replace o2 := o2.carry (b16.mono (Nat.le_refl _))
  replace o6 := o6.carry (b16.mono (Nat.le_refl _))
  replace o8 := o8.carry (b16.mono (Nat.le_refl _))
  replace o15 := o15.carry (b16.mono (Nat.le_refl _))
  have hb16 : Below w0.heap.size w0 w16 := hb15.trans (b16.mono hb15.size)
  clear hb15
  clear b16
  clear o15
  go_wp2_with fail
  refine (of_lit [0, 0] 2 _ w16 rfl (by decide) rfl).mono ?_
  rintro e w17 ⟨a17, c17, rfl, o17, b17⟩
  replace o2 := o2.carry (b17.mono (Nat.le_refl _))
  replace o6 := o6.carry (b17.mono (Nat.le_refl _))
  replace o8 := o8.carry (b17.mono (Nat.le_refl _))
  have hb17 : Below w0.heap.size w0 w17 := hb16.trans (b17.mono hb16.size)
  clear hb16
  clear b17
  go_wp2_with fail
  refine (check_ext a17 _ c17 _ w17 o17.rd rfl (wf_all (by kernel_rfl))).mono ?_
  rintro e w18 ⟨rfl, b18⟩
  rw [show chkX (ofX [0, 0]) = 8 by kernel_rfl]
  replace o2 := o2.carry (b18.mono (Nat.le_refl _))
  replace o6 := o6.carry (b18.mono (Nat.le_refl _))
  replace o8 := o8.carry (b18.mono (Nat.le_refl _))
  replace o17 := o17.carry (b18.mono (Nat.le_refl _))
  have hb18 : Below w0.heap.size w0 w18 := hb17.trans (b18.mono hb17.size)
  clear hb17
  clear b18
  clear o17
  go_wp2_with fail
  refine (alive4_any w18).mono ?_
  rintro e w19 ⟨rfl, b19⟩
  replace o2 := o2.carry (b19.mono (Nat.le_refl _))
  replace o6 := o6.carry (b19.mono (Nat.le_refl _))
  replace o8 := o8.carry (b19.mono (Nat.le_refl _))
  have hb19 : Below w0.heap.size w0 w19 := hb18.trans (b19.mono hb18.size)
  clear hb18
  clear b19
  go_wp2_with fail
  refine (of_lit [2, 2, 8, 1] 4 _ w19 rfl (by decide) rfl).mono ?_
  rintro e w20 ⟨a20, c20, rfl, o20, b20⟩
  replace o2 := o2.carry (b20.mono (Nat.le_refl _))
  replace o6 := o6.carry (b20.mono (Nat.le_refl _))
  replace o8 := o8.carry (b20.mono (Nat.le_refl _))
  have hb20 : Below w0.heap.size w0 w20 := hb19.trans (b20.mono hb19.size)
  clear hb19
  clear b20
  go_wp2_with fail
  refine (same_ext a2 a20 _ c2 _ c20 _ _ w20 o2.rd o20.rd rfl rfl).mono ?_
  rintro e w21 ⟨rfl, b21⟩
  rw [show decide (ofX [2, 2, 8, 1] = ofX [2, 2, 8, 1]) = true by simp]
  replace o2 := o2.carry (b21.mono (Nat.le_refl _))
  replace o6 := o6.carry (b21.mono (Nat.le_refl _))
  replace o8 := o8.carry (b21.mono (Nat.le_refl _))
  replace o20 := o20.carry (b21.mono (Nat.le_refl _))
  have hb21 : Below w0.heap.size w0 w21 := hb20.trans (b21.mono hb20.size)
  clear hb20
  clear b21
  clear o20
  clear o2
  go_wp2_with fail
  refine (of_lit [2, 2, 8, 2] 4 _ w21 rfl (by decide) rfl).mono ?_
  rintro e w22 ⟨a22, c22, rfl, o22, b22⟩
  replace o6 := o6.carry (b22.mono (Nat.le_refl _))
  replace o8 := o8.carry (b22.mono (Nat.le_refl _))
  have hb22 : Below w0.heap.size w0 w22 := hb21.trans (b22.mono hb21.size)
  clear hb21
  clear b22
  go_wp2_with fail
  refine (same_ext a6 a22 _ c6 _ c22 _ _ w22 o6.rd o22.rd rfl rfl).mono ?_
  rintro e w23 ⟨rfl, b23⟩
  rw [show decide (ofX [2, 2, 8, 2] = ofX [2, 2, 8, 2]) = true by simp]
  replace o6 := o6.carry (b23.mono (Nat.le_refl _))
  replace o8 := o8.carry (b23.mono (Nat.le_refl _))
  replace o22 := o22.carry (b23.mono (Nat.le_refl _))
  have hb23 : Below w0.heap.size w0 w23 := hb22.trans (b23.mono hb22.size)
  clear hb22
  clear b23
  clear o22
  clear o6
  obtain ⟨bb, off, e, hc⟩ := o8.at 2 (by decide)
  subst e
  go_wp2
  go_ret
  exact ⟨rfl, hb23⟩

end Go.Proofs.Ytkneeoglinhgdaa
