/-
  The library's Grow of nothing, Concat of rows of bytes, Equal of bytes.
-/
import Derived.Test.YtjkoemdojdcmpaaFiDel
import Derived.Lib.AppendZerosOnto
import Derived.Lib.Overlaps
import Derived.Test.YtjkoemdojdcmpaaTb5
namespace Go.Proofs.Ytjkoemdojdcmpaa
open Go.RowKit
set_option linter.unusedVariables false
set_option linter.unusedSimpArgs false

theorem wpList_runapzF {P : Program} {w w' : World} {ops : Array Oper} {rest : List Oper} {o : Oper} {a : Act} {Q : Exit → Act → World → Prop} (hgd : o.guard = none) (s x : Operand) (t u : TypeId)
    (ho : o.op = .call { callee := .builtin .append, args := #[s, x], argTypes := #[t, u] }) {v vx v' : Value} (hs : a.eval s = v) (hx : a.eval x = vx)
    (hrun : (Builtin.append_ #[t, u] o.type #[v, vx]).run P w = .ok v' w') (h : wpList P ops Q rest (a.put o.dst v') w') : wpList P ops Q (o :: rest) a w := by
  refine wpList_plain hgd fun K hK => ?_
  unfold Oper.wp execOp
  simp only [ho, resolve, invoke, builtin, Sem.run_bind, Sem.run_pure, Result.andThen_ok, List.map_toArray, List.map_cons, List.map_nil, hs, hx, hrun]
  exact hK _ _ h


theorem equal_tb (a b : Value) (l m : List UInt8) (w : World) (h : Rd w a l) (k : Rd w b m) :
    Calls Try.prog 25 #[a, b] w fun e w' => e = .returned (.bool (decide (l = m))) ∧ w' = w := by
  have h1 := conv_rd (P := Try.prog) 22 5 9 Try.underlying22 Try.underlying5 Try.underlying9 h
  have h2 := conv_rd (P := Try.prog) 22 5 9 Try.underlying22 Try.underlying5 Try.underlying9 k
  clear h k
  go_enter Try.func25, Try.ntmps25
  go_wp2
  go_ret
  exact ⟨ret_boolB (eqK_bs l m), rfl⟩

set_option maxHeartbeats 1000000 in
set_option maxRecDepth 100000 in
theorem grow_tb (m : Nat) (w : World) (hm : m ≤ 100000000) :
    Calls Try.prog 75 #[.slice none 0 0, .int .i64 m] w fun e w' => ∃ v, e = .returned v ∧ OwY w' w.heap.size v [] ∧ Below w.heap.size w w' := by
  by_cases h0 : m = 0
  · subst h0
    go_enter Try.func75, Try.ntmps75
    go_wp2
    go_ret
    exact ⟨_, rfl, OwY.nil _ _, Below.refl _ _⟩
  · obtain ⟨i0, hi0, hz0, hz1, hz2⟩ := info_parts Try.infoB
    have hold : (Builtin.firstCells i0.size 0 (.slice none 0 0)).run Try.prog w.drew = .ok ([] : List Value).toArray w.drew := by simp [Builtin.firstCells]
    have hrz := fun ty => Lib.run_append_grow_zeros (P := Try.prog) w 22 3 ty 5 i0 _ .i64 .i64 Try.underlying22 Try.underlying3 hi0 hz0 none 0 0 [] hold m (by omega) (by omega) (by omega) (by omega) (by rw [hz2]; omega) (by rw [hz2]; exact growslice_fits (by omega) (by omega))
    rw [Nat.zero_add] at hrz
    obtain ⟨G, hG⟩ : ∃ G, G = grownCap w m 0 5 := ⟨_, rfl⟩
    have hGn : m ≤ G := by rw [hG]; exact grownCap_ge w _ _ _
    have hGm : G ≤ maxLen := by rw [hG]; exact grownCap_le_maxLen w _ _ _ (by unfold maxLen; omega)
    rw [← hG] at hrz
    obtain ⟨ROW, hROW⟩ : ∃ ROW : Array Value, ROW = ([] : List Value).toArray ++ Builtin.zeroCells (Value.cells (.int .u8 0)) m ++ Builtin.zeroCells (Value.cells (.int .u8 0)) (G - m) := ⟨_, rfl⟩
    rw [← hROW] at hrz
    have hRs : ROW.size = G * 1 := by
      have e0 : Value.cells (.int .u8 0) = #[.int .u8 0] := rfl
      rw [hROW, e0]
      simp only [Array.size_append, List.size_toArray, Builtin.zeroCells, Array.size_map, Array.size_range, List.length_map, List.length_range, List.length_cons, List.length_nil]
      omega
    obtain ⟨W1, hW1⟩ : ∃ W1, W1 = w.drew.alloc (.cells ROW 5) := ⟨_, rfl⟩
    rw [← hW1] at hrz
    have HO := hide (show OwY W1 w.heap.size (.slice (some ⟨w.heap.size, 0, none⟩) 0 G) [] from ⟨rfl, .inr ⟨w.heap.size, G, ROW, rfl, Nat.le_refl _, by rw [hW1]; exact heap_alloc_new w.drew _, Nat.zero_le _, hGm, hRs, by simp [u8v]⟩⟩)
    have HB := hide (show Below w.heap.size w W1 by rw [hW1]; exact (Below.refl w.heap.size w).drew.alloc (Nat.le_refl _) _)
    unfold maxLen at hGm
    clear hW1 hRs hROW hG hold hi0 hz0 hz1 hz2
    have hm0 : ¬ ((m : Int) < 0) := by omega
    have hm1 : (0 : Int) < m := by omega
    go_enter Try.func75, Try.ntmps75
    go_wp2_with (at_builtin; refine wpList_runapzF rfl (.tmp 20) (.tmp 21) 22 3 rfl rfl rfl (hrz _) ?_)
    go_ret
    exact ⟨_, rfl, HO.out, HB.out⟩

def PcsAt (w : World) (b : Nat) (ps : List (List UInt8)) : Prop := ∀ j, (h : j < ps.length) → ∃ a c, w.cell? ⟨b, j, none⟩ = some (.slice a (ps[j]).length c) ∧ Rd w (.slice a (ps[j]).length c) ps[j]
theorem PcsAt.carry {w w' : World} {b : Nat} {ps : List (List UInt8)} (h : PcsAt w b ps) (hb : Below w.heap.size w w') : PcsAt w' b ps := by
  intro j hj
  obtain ⟨a, c, h1, h2⟩ := h j hj
  exact ⟨a, c, by rw [hb.cell (World.block_lt_of_cell? w _ h1)]; exact h1, h2.carry hb⟩
theorem pcs_take (ps : List (List UInt8)) (k : Nat) (h : k < ps.length) : (ps.take (k + 1)).flatten = (ps.take k).flatten ++ ps[k] := by
  rw [List.take_succ_eq_append_getElem h, List.flatten_append]; simp
theorem pcs_le (ps : List (List UInt8)) (k : Nat) : ((ps.take k).flatten).length ≤ ps.flatten.length := by
  have e : ps.flatten = (ps.take k).flatten ++ (ps.drop k).flatten := by rw [← List.flatten_append, List.take_append_drop]
  rw [e, List.length_append]; omega

set_option maxHeartbeats 2000000 in
set_option maxRecDepth 100000 in
theorem concat_tb (b n : Nat) (ps : List (List UInt8)) (w : World) (hn : n = ps.length) (hp : PcsAt w b ps) (hl : ps.flatten.length ≤ 100000000) (hn5 : n ≤ 1000) :
    Calls Try.prog 51 #[.slice (some ⟨b, 0, none⟩) n n] w fun e w' => ∃ v, e = .returned v ∧ OwY w' w.heap.size v ps.flatten ∧ Below w.heap.size w w' := by
  have HN := hide hn
  have HP := hide hp
  have HL := hide hl
  clear hn hp hl
  go_enter Try.func51, Try.ntmps51
  go_wp2
  go_loop [3, 11] (fun x i => ∃ k z : Nat, k ≤ n ∧ i = .int .i64 k ∧ x = .int .i64 z ∧ Hid (z = ((ps.take k).flatten).length)) (fun _ i => n - (intOf i).toNat)
  case atStart => exact ⟨0, 0, Nat.zero_le _, rfl, rfl, hide (by simp)⟩
  case round =>
    obtain ⟨k, z, hk, rfl, rfl, hZ⟩ := hrel
    by_cases hlt : k < n
    · have hlt' : (k : Int) < n := by omega
      have hkl : k < ps.length := by have := HN.out; omega
      obtain ⟨a, c, q, -⟩ := HP.out k hkl
      have HT := hide (congrArg List.length (pcs_take ps k hkl))
      rw [List.length_append, ← hZ.out] at HT
      have hle := pcs_le ps (k + 1)
      rw [HT.out] at hle
      have hle2 : z + (ps[k]).length ≤ 100000000 := Nat.le_trans hle HL.out
      generalize (ps[k]).length = m at *
      clear hle
      have g : decide ((z : Int) + m < 0) = false := by simpa using (by omega : ¬ (z : Int) + m < 0)
      go_wp2
      go_round
      case rel => exact ⟨k + 1, z + m, by omega, by go_num, by go_num, hide HT.out.symm⟩
      case measure => simp [intOf] <;> omega
    · have hd : decide ((k : Int) < n) = false := by simpa using (by omega : ¬ (k : Int) < n)
      have hzl : z ≤ 100000000 := by have := pcs_le ps k; have := HL.out; have := hZ.out; omega
      go_wp2_with fail
      refine (grow_tb z _ hzl).mono ?_
      rintro e w1 ⟨v1, rfl, o1, b1⟩
      obtain ⟨a1, c1, rfl⟩ := o1.form
      have HO1 := hide o1
      have HB1 := hide b1
      clear o1 b1 hd hZ hzl
      go_wp2
      go_loopw [6, 27] (fun v i wr => ∃ (k : Nat) (av : Option Addr) (nv cv : Nat), k ≤ n ∧ i = .int .i64 k ∧ v = .slice av nv cv ∧ Hid (OwY wr w.heap.size (.slice av nv cv) (ps.take k).flatten) ∧ Hid (Below w.heap.size w wr)) (fun _ i _ => n - (intOf i).toNat)
      case atStart => exact ⟨0, _, _, _, Nat.zero_le _, rfl, rfl, hide (by simpa using HO1.out), HB1⟩
      case round =>
        obtain ⟨j, av, nv, cv, hj, rfl, rfl, hO, hB⟩ := hrel
        clear HO1 HB1
        by_cases hlt2 : j < n
        · have hlt2' : (j : Int) < n := by omega
          have hjl : j < ps.length := by have := HN.out; omega
          obtain ⟨a, c, q, hr⟩ := (HP.out.carry hB.out) j hjl
          have HT := hide (pcs_take ps j hjl)
          obtain ⟨a9, n9, c9, w9, HN9, hrun9, o9, b9, k9⟩ := app_y hO.out hB.out.size hr (by
            have h1 := congrArg List.length HT.out
            rw [List.length_append] at h1
            have := pcs_le ps (j + 1); have := HL.out; omega)
          rw [← HT.out] at o9
          have HO9 := hide o9
          have HB9 := hide (hB.out.trans b9)
          clear o9 b9 k9 hO hB hr HT
          generalize (ps[j]).length = m at *
          go_wp2_with (first | (at_builtin; refine wpList_runappY rfl (.tmp 31) (.tmp 32) 22 rfl rfl rfl rfl hrun9 ?_) | fail)
          clear hrun9
          go_roundw
          case rel => exact ⟨j + 1, _, _, _, by omega, by go_num, rfl, HO9, HB9⟩
          case measure => simp only [intOf]; omega
        · have hd : decide ((j : Int) < n) = false := by simpa using (by omega : ¬ (j : Int) < n)
          have HT := hide (show ps.take j = ps by rw [List.take_of_length_le (by have := HN.out; omega)])
          rw [HT.out] at hO
          go_wp2
          go_ret
          exact ⟨_, rfl, hO.out, hB.out⟩

end Go.Proofs.Ytjkoemdojdcmpaa
