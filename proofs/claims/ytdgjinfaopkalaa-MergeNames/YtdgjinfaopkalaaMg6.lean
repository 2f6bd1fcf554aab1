/-
  What merge.two does.
-/
import Derived.Test.YtdgjinfaopkalaaMg1
import Derived.Test.YtdgjinfaopkalaaMr3
import Derived.Test.YtdgjinfaopkalaaTb0
namespace Go.Proofs.Ytdgjinfaopkalaa
open Go.RowKit
set_option linter.unusedVariables false
set_option linter.unusedSimpArgs false

theorem exec_slY {P : Program} {o : Oper} {a : Act} {x lo : Operand} {t : TypeId} {v vl v' : Value} {w : World} (ht : P.underlying t = some (.slice (P.elem t))) (ho : o.op = .slice t x (some lo) none none) (hx : a.eval x = v) (hlo : a.eval lo = vl)
    (hrun : ∀ wx, (Instr.slice t v (some vl) none none).run P wx = .ok v' wx) : (execOp a.eval o).run P w = .ok (.value v') w := by
  unfold execOp
  simp only [ho, Option.map_some, Option.map_none, hx, hlo, run_sliceAt_slice w t _ _ _ _ ht, Sem.run_bind, hrun w, Result.andThen_ok, Sem.run_pure]
theorem make_room (w : World) (N : Nat) (hN : N ≤ 3000000) : ∃ w2, (Instr.makeSlice 22 (.int .i64 0) (.int .i64 N)).run Try.prog w = .ok (.slice (some ⟨w.heap.size, 0, none⟩) 0 N) w2 ∧ OwN w2 w.heap.size (.slice (some ⟨w.heap.size, 0, none⟩) 0 N) [] ∧ Below w.heap.size w w2 := by
  obtain ⟨i0, hi, hz0, hz1, hz2⟩ := info_parts Try.infoEn
  obtain ⟨w2, h1, h2, h3⟩ := run_make_own (P := Try.prog) w w.heap.size 22 30 i0 _ 4 Try.underlying22 hi hz0 hz1 .i64 .i64 N (by rw [hz2]; omega) (by unfold maxLen; omega) (Nat.le_refl _)
  exact ⟨w2, h1, h2, (Below.refl _ _).grown h3 (Nat.le_refl _) (fun k hk => by cases hk)⟩
theorem app_entsG {w : World} {base : Nat} {v : Value} {l : List Ent} (h : OwN w base v l) (hb : base ≤ w.heap.size) {a : Option Addr} {n c : Nat} {m : List Ent} (hm : RdN w (.slice a n c) m) (hl : l.length + m.length ≤ 4000000) :
    ∃ b n' c' w', Hid (n' = (l ++ m).length) ∧ (Builtin.append_ #[22, 22] 22 #[v, .slice a n c]).run Try.prog w = .ok (.slice b n' c') w' ∧ OwN w' base (.slice b n' c') (l ++ m) ∧ Below base w w' := by
  obtain ⟨b, c', w', h1, h2, h3, _⟩ := app_allG ecN_len (by decide) ecN_one Try.underlying22 Try.infoEn rfl h hb hm (by omega) (by unfold maxLen; omega)
  exact ⟨b, _, c', w', hide rfl, h1, h2, h3⟩
def slLen : Value → Nat
  | .slice _ n _ => n
  | _ => 0
theorem mrg_ends {X Y : List Ent} (h : X = [] ∨ Y = []) : mrgG X Y = X ++ Y := by
  rcases h with rfl | rfl
  · simp [mrgG]
  · rw [mrgG_nil, List.append_nil]
theorem mrg_left {X Y O M : List Ent} (hX : 0 < X.length) (hY : 0 < Y.length) (h : M = O ++ mrgG X Y) (hc : cmpM X[0] Y[0] ≤ 0) : M = (O ++ [X[0]]) ++ mrgG (X.drop 1) Y := by
  obtain ⟨x, X, rfl⟩ := List.exists_cons_of_length_pos hX
  obtain ⟨y, Y, rfl⟩ := List.exists_cons_of_length_pos hY
  simp only [List.getElem_cons_zero] at hc
  rw [h]
  conv => lhs; rw [mrgG, if_pos hc]
  simp
theorem mrg_right {X Y O M : List Ent} (hX : 0 < X.length) (hY : 0 < Y.length) (h : M = O ++ mrgG X Y) (hc : ¬ cmpM X[0] Y[0] ≤ 0) : M = (O ++ [Y[0]]) ++ mrgG X (Y.drop 1) := by
  obtain ⟨x, X, rfl⟩ := List.exists_cons_of_length_pos hX
  obtain ⟨y, Y, rfl⟩ := List.exists_cons_of_length_pos hY
  simp only [List.getElem_cons_zero] at hc
  rw [h]
  conv => lhs; rw [mrgG, if_neg hc]
  simp
theorem mrg_bound {X Y X' Y' O : List Ent} {N : Nat} (h : mrgG X Y = O ++ mrgG X' Y') (hl : X.length + Y.length ≤ N) : O.length + (X'.length + Y'.length) ≤ N := by
  have := congrArg List.length h
  rw [List.length_append, mrgG_len, mrgG_len] at this
  omega

set_option maxHeartbeats 4000000 in
set_option maxRecDepth 100000 in
theorem two_mg (a : Option Addr) (n c : Nat) (X : List Ent) (a' : Option Addr) (n' c' : Nat) (Y : List Ent) (w : World) (hx : RdN w (.slice a n c) X) (hy : RdN w (.slice a' n' c') Y) (hl : n + n' ≤ 2000000) :
    Calls Try.prog 26 #[.slice a n c, .slice a' n' c'] w fun e w' => ∃ av nv cv, e = .returned (.slice av nv cv) ∧ OwN w' w.heap.size (.slice av nv cv) (mrgG X Y) ∧ Below w.heap.size w w' := by
  have HLN := hide (show X.length + Y.length ≤ 2000000 by have := hx.len; have := hy.len; omega)
  have HX0 := hide hx
  have HY0 := hide hy
  clear hx hy
  obtain ⟨w1, hmk, o1, b1⟩ := make_room w (n + n') (by omega)
  have HO1 := hide o1
  have HB1 := hide b1
  clear o1 b1
  have hw1 : IntKind.i64.wrap ((n : Int) + n') = n + n' := by rw [IntKind.wrap_i64]; omega
  have hmk2 : (Instr.makeSlice 22 (.int .i64 0) (.int .i64 ((n : Int) + n'))).run Try.prog w = .ok (.slice (some ⟨w.heap.size, 0, none⟩) 0 (n + n')) w1 := by rw [← hmk]; simp
  clear hmk
  obtain ⟨g0, hg0⟩ : ∃ g0, g0 = w.heap.size := ⟨_, rfl⟩
  rw [← hg0] at hmk2
  rw [show (Value.slice (some ⟨w.heap.size, 0, none⟩) 0 (n + n')) = .slice (some ⟨g0, 0, none⟩) 0 (n + n') by rw [hg0]] at HO1
  obtain ⟨N0, hN0⟩ : ∃ N0, N0 = n + n' := ⟨_, rfl⟩
  rw [← hN0] at hmk2 HO1
  clear hg0 hN0
  go_enter Try.func26, Try.ntmps26
  go_wp2_with (refine wpList_mkY rfl (.const (.int .i64 0)) (.tmp 10) 22 rfl rfl rfl hmk2 ?_)
  clear hmk2 hw1
  go_loopw [0, 1, 5] (fun xv yv ov wr => ∃ ax nx cx ay ny cy av nv cv X' Y' O, xv = .slice ax nx cx ∧ yv = .slice ay ny cy ∧ ov = .slice av nv cv ∧ Hid (RdN w (.slice ax nx cx) X') ∧ Hid (RdN w (.slice ay ny cy) Y') ∧ Hid (OwN wr w.heap.size (.slice av nv cv) O) ∧ Hid (mrgG X Y = O ++ mrgG X' Y') ∧ Hid (Below w.heap.size w wr)) (fun xv yv _ _ => slLen xv + slLen yv)
  case atStart => exact ⟨_, _, _, _, _, _, _, _, _, X, Y, [], rfl, rfl, rfl, HX0, HY0, HO1, hide rfl, HB1⟩
  case round =>
    obtain ⟨ax, nx, cx, ay, ny, cy, av, nv, cv, X', Y', O, rfl, rfl, rfl, hX, hY, hO, hM, hB⟩ := hrel
    clear HX0 HY0 HO1 HB1
    have HBD := hide (mrg_bound hM.out HLN.out)
    have HXL := hide hX.out.len
    have HYL := hide hY.out.len
    by_cases h0 : nx = 0 ∨ ny = 0
    · have HM2 := hide (show mrgG X Y = (O ++ X') ++ Y' by
        rw [hM.out, mrg_ends (by rcases h0 with h | h; exact .inl (List.length_eq_zero_iff.1 (by have := HXL.out; omega)); exact .inr (List.length_eq_zero_iff.1 (by have := HYL.out; omega))), List.append_assoc])
      obtain ⟨a5, n5, c5, w5, HN5, hr5, o5, b5⟩ := app_entsG hO.out hB.out.size (hX.out.carry hB.out) (by have := HBD.out; omega)
      have HB5 := hide (show Below w.heap.size w w5 from hB.out.trans b5)
      obtain ⟨a6, n6, c6, w6, HN6, hr6, o6, b6⟩ := app_entsG o5 HB5.out.size (hY.out.carry HB5.out) (by have := HBD.out; rw [List.length_append]; omega)
      have HO6 := hide o6
      have HB6 := hide (show Below w.heap.size w w6 from HB5.out.trans b6)
      clear o5 b5 o6 b6 hX hY hO hM hB HXL HYL HBD
      rcases h0 with h0 | h0
      · subst h0
        go_wp2_with (first | (at_builtin; refine wpList_runappY rfl (.tmp 44) (.tmp 45) 22 rfl rfl rfl rfl hr5 ?_) | (at_builtin; refine wpList_runappY rfl (.tmp 46) (.tmp 47) 22 rfl rfl rfl rfl hr6 ?_))
        go_ret
        exact ⟨_, _, _, rfl, by rw [HM2.out]; exact HO6.out, HB6.out⟩
      · subst h0
        by_cases h1 : 0 < nx
        · have h1' : (0 : Int) < nx := by omega
          go_wp2_with (first | (at_builtin; refine wpList_runappY rfl (.tmp 44) (.tmp 45) 22 rfl rfl rfl rfl hr5 ?_) | (at_builtin; refine wpList_runappY rfl (.tmp 46) (.tmp 47) 22 rfl rfl rfl rfl hr6 ?_))
          go_ret
          exact ⟨_, _, _, rfl, by rw [HM2.out]; exact HO6.out, HB6.out⟩
        · obtain rfl : nx = 0 := by omega
          go_wp2_with (first | (at_builtin; refine wpList_runappY rfl (.tmp 44) (.tmp 45) 22 rfl rfl rfl rfl hr5 ?_) | (at_builtin; refine wpList_runappY rfl (.tmp 46) (.tmp 47) 22 rfl rfl rfl rfl hr6 ?_))
          go_ret
          exact ⟨_, _, _, rfl, by rw [HM2.out]; exact HO6.out, HB6.out⟩
    · have hnx : 0 < nx := by omega
      have hny : 0 < ny := by omega
      have hnx' : (0 : Int) < nx := by omega
      have hny' : (0 : Int) < ny := by omega
      have hXl : 0 < X'.length := by have := HXL.out; omega
      have hYl : 0 < Y'.length := by have := HYL.out; omega
      have HCX := hide (fun wx (hb : Below w.heap.size w wx) => RdN.cells hX.out hb 0 hXl)
      have HCY := hide (fun wx (hb : Below w.heap.size w wx) => RdN.cells hY.out hb 0 hYl)
      obtain ⟨bx, ox, ex, -⟩ := HCX.out wr hB.out
      obtain ⟨by_, oy, ey, -⟩ := HCY.out wr hB.out
      subst ex ey
      obtain ⟨aX, cX, hslX, hrX⟩ := slNl hX.out 1 hXl
      obtain ⟨aY, cY, hslY, hrY⟩ := slNl hY.out 1 hYl
      have HRX := hide (hrX w (Below.refl _ _))
      have HRY := hide (hrY w (Below.refl _ _))
      have HLE := hide (fun hc => mrg_left hXl hYl hM.out hc)
      have HRI := hide (fun hc => mrg_right hXl hYl hM.out hc)
      obtain ⟨x, hx⟩ : ∃ x, x = X'[0] := ⟨_, rfl⟩
      obtain ⟨y, hy⟩ : ∃ y, y = Y'[0] := ⟨_, rfl⟩
      rw [← hx] at HCX HLE HRI
      rw [← hy] at HCY HLE HRI
      have HCX2 := hide (show ∀ wx, Below w.heap.size w wx → CellsN wx bx ox x from fun wx hb => by
        obtain ⟨b', o', e', q0, q1, q2, q3⟩ := HCX.out wx hb
        cases e'
        simp only [Nat.zero_mul, Nat.add_zero] at q0 q1 q2 q3
        exact ⟨q0, q1, q2, q3⟩)
      have HCY2 := hide (show ∀ wx, Below w.heap.size w wx → CellsN wx by_ oy y from fun wx hb => by
        obtain ⟨b', o', e', q0, q1, q2, q3⟩ := HCY.out wx hb
        cases e'
        simp only [Nat.zero_mul, Nat.add_zero] at q0 q1 q2 q3
        exact ⟨q0, q1, q2, q3⟩)
      clear hx hy hrX hrY HCX HCY hXl hYl h0
      have hslX1 : ∀ wx, (Instr.slice 22 (.slice (some ⟨bx, ox, none⟩) nx cx) (some (.int .i64 1)) none none).run Try.prog wx = .ok (.slice aX (nx - 1) cX) wx := hslX
      have hslY1 : ∀ wx, (Instr.slice 22 (.slice (some ⟨by_, oy, none⟩) ny cy) (some (.int .i64 1)) none none).run Try.prog wx = .ok (.slice aY (ny - 1) cY) wx := hslY
      have HSX := hide hslX1
      have HSY := hide hslY1
      clear hslX hslY hslX1 hslY1
      have HCM := hide (fun wx => compare_mg x y wx)
      obtain ⟨z, hz⟩ : ∃ z, z = cmpM x y := ⟨_, rfl⟩
      rw [← hz] at HCM HLE HRI
      clear hz
      obtain ⟨XK, XS, XD, XV⟩ := x
      obtain ⟨YK, YS, YD, YV⟩ := y
      simp only at HCM
      have hK : Keeps (fun wx => Below w.heap.size w wx ∧ OwN wx w.heap.size (.slice av nv cv) O) := fun w1 w2 h hb => ⟨h.1.trans (hb.mono h.1.size), h.2.carry hb⟩
      have hS0 : Below w.heap.size w wr ∧ OwN wr w.heap.size (.slice av nv cv) O := ⟨hB.out, hO.out⟩
      by_cases hz : z ≤ 0
      · have HM2 := hide (HLE.out hz)
        clear HLE HRI hB hO hM
        go_wp2_with fail
        refine reg_begin hK (by kernel_rfl) hS0 ?_
        intro hS
        clear hS0
        generalize wr.drew = wd at *
        refine reg_plan [0, 1, 2, 3, 4, 5] (fuel := 2) (a' := ?qaa1) (by kernel_rfl) (by kernel_rfl) (by kernel_rfl) ?qap1 hS ?qan1
        case qap1 =>
          iterate 6 (apply Yl.cons rfl (by kernel_rfl); focus (rintro wx ⟨x1, _⟩; obtain ⟨u0, u1, u2, u3⟩ := HCX2.out wx x1; obtain ⟨v0, v1, v2, v3⟩ := HCY2.out wx x1; dsimp only at u0 u1 u2 u3 v0 v1 v2 v3; clear x1; go_simp; all_goals (with_reducible rfl)); try simp only [Act.put, List.setIfInBounds_toArray, List.set_cons_zero, List.set_cons_succ])
          exact Yl.nil
        refine reg_callv hK (i := 6) (v := .int .i64 z) rfl (by kernel_rfl) (by kernel_rfl) (by go_simp) hS (HCM.out _) ?_
        clear hS
        intro w26 hS
        try simp only [Act.put, List.setIfInBounds_toArray, List.set_cons_zero, List.set_cons_succ]
        refine reg_plan [7] (fuel := 0) (a' := ?qaa2) (by kernel_rfl) (by kernel_rfl) (by kernel_rfl) ?qap2 hS ?qan2
        case qap2 =>
          iterate 1 (apply Yl.cons rfl (by kernel_rfl); focus (rintro wx ⟨x1, _⟩; obtain ⟨u0, u1, u2, u3⟩ := HCX2.out wx x1; obtain ⟨v0, v1, v2, v3⟩ := HCY2.out wx x1; dsimp only at u0 u1 u2 u3 v0 v1 v2 v3; clear x1; go_simp; all_goals (with_reducible rfl)); try simp only [Act.put, List.setIfInBounds_toArray, List.set_cons_zero, List.set_cons_succ])
          exact Yl.nil
        refine wpAnyH_done (by kernel_rfl) ?_ _
        refine NoPanic.normal ?_
        try simp only [Act.put, List.setIfInBounds_toArray, List.set_cons_zero, List.set_cons_succ]
        have HB3 := hide hS.1
        have HO3 := hide hS.2
        clear hS hK
        go_wp2_with fail
        have HOd := hide (HO3.out.carry (Below.refl _ _).drew)
        have HBd := hide (HB3.out.drew)
        have hK : Keeps (fun wx => Below w.heap.size w wx) := fun w1 w2 h hb => h.trans (hb.mono h.size)
        have hS0 : Below w.heap.size w w26 := HB3.out
        clear HB3 HO3
        refine reg_begin hK (by kernel_rfl) hS0 ?_
        intro hS
        clear hS0
        generalize w26.drew = wd at *
        refine reg_plan [0, 1, 2, 3, 6, 7] (fuel := 4) (a' := ?qca1) (by kernel_rfl) (by kernel_rfl) (by kernel_rfl) ?qcp1 hS ?qcn1
        case qcp1 =>
          iterate 6 (apply Yl.cons rfl (by kernel_rfl); focus (rintro wx x1; (first | exact exec_slY (by kernel_rfl) rfl rfl rfl HSX.out | (obtain ⟨u0, u1, u2, u3⟩ := HCX2.out wx x1; obtain ⟨v0, v1, v2, v3⟩ := HCY2.out wx x1; dsimp only at u0 u1 u2 u3 v0 v1 v2 v3; clear x1; go_simp; all_goals (with_reducible rfl)))); try simp only [Act.put, List.setIfInBounds_toArray, List.set_cons_zero, List.set_cons_succ])
          exact Yl.nil
        obtain ⟨w2, hw2⟩ : ∃ w2, w2 = wd.alloc (.cells #[.string (bs XK), .int .i64 XS, .bool XD, .string (bs XV)] 30) := ⟨_, rfl⟩
        have hb2 : Below wd.heap.size wd w2 := by rw [hw2]; exact (Below.refl _ _).alloc (Nat.le_refl _) _
        have hS2 := hK _ _ hS hb2
        refine reg_run (i := 4) (v := .slice (some ⟨wd.heap.size, 0, none⟩) 1 1) (w' := w2) rfl (by kernel_rfl) (by kernel_rfl) (by rw [hw2]; go_simp) hS2 ?_
        obtain ⟨g9, c9, w9, hr9, o9, b9, _⟩ := app_entA HOd.out HBd.out.size (by have := HBD.out; omega) (XK, XS, XD, XV)
        simp only at hr9
        rw [← hw2] at hr9
        have hS9 : Below w.heap.size w w9 := HBd.out.trans b9
        have HB9 := hide hS9
        have HO9 := hide o9
        obtain ⟨n9, hn9⟩ : ∃ n9, n9 = O.length + 1 := ⟨_, rfl⟩
        rw [← hn9] at hr9 HO9
        clear hS o9 b9 hn9 hb2 hw2
        have hS := hS2
        clear hS2
        try simp only [Act.put, List.setIfInBounds_toArray, List.set_cons_zero, List.set_cons_succ]
        refine reg_run (i := 5) (v := .slice (some ⟨g9, 0, none⟩) n9 c9) (w' := w9) rfl (by kernel_rfl) (by kernel_rfl) (exec_appY rfl rfl rfl hr9) hS9 ?_
        clear hS hr9
        have hS := hS9
        clear hS9
        try simp only [Act.put, List.setIfInBounds_toArray, List.set_cons_zero, List.set_cons_succ]
        refine reg_plan [8, 9] (fuel := 0) (a' := ?qca2) (by kernel_rfl) (by kernel_rfl) (by kernel_rfl) ?qcp2 hS ?qcn2
        case qcp2 =>
          iterate 2 (apply Yl.cons rfl (by kernel_rfl); focus (rintro wx x1; (first | exact exec_slY (by kernel_rfl) rfl rfl rfl HSX.out | (obtain ⟨u0, u1, u2, u3⟩ := HCX2.out wx x1; obtain ⟨v0, v1, v2, v3⟩ := HCY2.out wx x1; dsimp only at u0 u1 u2 u3 v0 v1 v2 v3; clear x1; go_simp; all_goals (with_reducible rfl)))); try simp only [Act.put, List.setIfInBounds_toArray, List.set_cons_zero, List.set_cons_succ])
          exact Yl.nil
        refine wpAnyH_done (by kernel_rfl) ?_ _
        refine NoPanic.normal ?_
        try simp only [Act.put, List.setIfInBounds_toArray, List.set_cons_zero, List.set_cons_succ]
        clear hS hK
        go_wp2
        go_roundw
        case rel => exact ⟨_, _, _, _, _, _, _, _, _, _, _, _, rfl, rfl, rfl, HRX, hY, HO9, HM2, HB9⟩
        case measure => simp only [slLen]; omega
      · have hz' : decide (z ≤ 0) = false := by simpa using hz
        have HM2 := hide (HRI.out hz)
        clear HLE HRI hB hO hM hz
        go_wp2_with fail
        refine reg_begin hK (by kernel_rfl) hS0 ?_
        intro hS
        clear hS0
        generalize wr.drew = wd at *
        refine reg_plan [0, 1, 2, 3, 4, 5] (fuel := 2) (a' := ?qba1) (by kernel_rfl) (by kernel_rfl) (by kernel_rfl) ?qbp1 hS ?qbn1
        case qbp1 =>
          iterate 6 (apply Yl.cons rfl (by kernel_rfl); focus (rintro wx ⟨x1, _⟩; obtain ⟨u0, u1, u2, u3⟩ := HCX2.out wx x1; obtain ⟨v0, v1, v2, v3⟩ := HCY2.out wx x1; dsimp only at u0 u1 u2 u3 v0 v1 v2 v3; clear x1; go_simp; all_goals (with_reducible rfl)); try simp only [Act.put, List.setIfInBounds_toArray, List.set_cons_zero, List.set_cons_succ])
          exact Yl.nil
        refine reg_callv hK (i := 6) (v := .int .i64 z) rfl (by kernel_rfl) (by kernel_rfl) (by go_simp) hS (HCM.out _) ?_
        clear hS
        intro w26 hS
        try simp only [Act.put, List.setIfInBounds_toArray, List.set_cons_zero, List.set_cons_succ]
        refine reg_plan [7] (fuel := 0) (a' := ?qba2) (by kernel_rfl) (by kernel_rfl) (by kernel_rfl) ?qbp2 hS ?qbn2
        case qbp2 =>
          iterate 1 (apply Yl.cons rfl (by kernel_rfl); focus (rintro wx ⟨x1, _⟩; obtain ⟨u0, u1, u2, u3⟩ := HCX2.out wx x1; obtain ⟨v0, v1, v2, v3⟩ := HCY2.out wx x1; dsimp only at u0 u1 u2 u3 v0 v1 v2 v3; clear x1; go_simp; all_goals (with_reducible rfl)); try simp only [Act.put, List.setIfInBounds_toArray, List.set_cons_zero, List.set_cons_succ])
          exact Yl.nil
        refine wpAnyH_done (by kernel_rfl) ?_ _
        refine NoPanic.normal ?_
        try simp only [Act.put, List.setIfInBounds_toArray, List.set_cons_zero, List.set_cons_succ]
        have HB3 := hide hS.1
        have HO3 := hide hS.2
        clear hS hK
        go_wp2_with fail
        have HOd := hide (HO3.out.carry (Below.refl _ _).drew)
        have HBd := hide (HB3.out.drew)
        have hK : Keeps (fun wx => Below w.heap.size w wx) := fun w1 w2 h hb => h.trans (hb.mono h.size)
        have hS0 : Below w.heap.size w w26 := HB3.out
        clear HB3 HO3
        refine reg_begin hK (by kernel_rfl) hS0 ?_
        intro hS
        clear hS0
        generalize w26.drew = wd at *
        refine reg_plan [0, 1, 2, 3, 6, 7] (fuel := 4) (a' := ?qda1) (by kernel_rfl) (by kernel_rfl) (by kernel_rfl) ?qdp1 hS ?qdn1
        case qdp1 =>
          iterate 6 (apply Yl.cons rfl (by kernel_rfl); focus (rintro wx x1; (first | exact exec_slY (by kernel_rfl) rfl rfl rfl HSY.out | (obtain ⟨u0, u1, u2, u3⟩ := HCX2.out wx x1; obtain ⟨v0, v1, v2, v3⟩ := HCY2.out wx x1; dsimp only at u0 u1 u2 u3 v0 v1 v2 v3; clear x1; go_simp; all_goals (with_reducible rfl)))); try simp only [Act.put, List.setIfInBounds_toArray, List.set_cons_zero, List.set_cons_succ])
          exact Yl.nil
        obtain ⟨w2, hw2⟩ : ∃ w2, w2 = wd.alloc (.cells #[.string (bs YK), .int .i64 YS, .bool YD, .string (bs YV)] 30) := ⟨_, rfl⟩
        have hb2 : Below wd.heap.size wd w2 := by rw [hw2]; exact (Below.refl _ _).alloc (Nat.le_refl _) _
        have hS2 := hK _ _ hS hb2
        refine reg_run (i := 4) (v := .slice (some ⟨wd.heap.size, 0, none⟩) 1 1) (w' := w2) rfl (by kernel_rfl) (by kernel_rfl) (by rw [hw2]; go_simp) hS2 ?_
        obtain ⟨g9, c9, w9, hr9, o9, b9, _⟩ := app_entA HOd.out HBd.out.size (by have := HBD.out; omega) (YK, YS, YD, YV)
        simp only at hr9
        rw [← hw2] at hr9
        have hS9 : Below w.heap.size w w9 := HBd.out.trans b9
        have HB9 := hide hS9
        have HO9 := hide o9
        obtain ⟨n9, hn9⟩ : ∃ n9, n9 = O.length + 1 := ⟨_, rfl⟩
        rw [← hn9] at hr9 HO9
        clear hS o9 b9 hn9 hb2 hw2
        have hS := hS2
        clear hS2
        try simp only [Act.put, List.setIfInBounds_toArray, List.set_cons_zero, List.set_cons_succ]
        refine reg_run (i := 5) (v := .slice (some ⟨g9, 0, none⟩) n9 c9) (w' := w9) rfl (by kernel_rfl) (by kernel_rfl) (exec_appY rfl rfl rfl hr9) hS9 ?_
        clear hS hr9
        have hS := hS9
        clear hS9
        try simp only [Act.put, List.setIfInBounds_toArray, List.set_cons_zero, List.set_cons_succ]
        refine reg_plan [8, 9] (fuel := 0) (a' := ?qda2) (by kernel_rfl) (by kernel_rfl) (by kernel_rfl) ?qdp2 hS ?qdn2
        case qdp2 =>
          iterate 2 (apply Yl.cons rfl (by kernel_rfl); focus (rintro wx x1; (first | exact exec_slY (by kernel_rfl) rfl rfl rfl HSY.out | (obtain ⟨u0, u1, u2, u3⟩ := HCX2.out wx x1; obtain ⟨v0, v1, v2, v3⟩ := HCY2.out wx x1; dsimp only at u0 u1 u2 u3 v0 v1 v2 v3; clear x1; go_simp; all_goals (with_reducible rfl)))); try simp only [Act.put, List.setIfInBounds_toArray, List.set_cons_zero, List.set_cons_succ])
          exact Yl.nil
        refine wpAnyH_done (by kernel_rfl) ?_ _
        refine NoPanic.normal ?_
        try simp only [Act.put, List.setIfInBounds_toArray, List.set_cons_zero, List.set_cons_succ]
        clear hS hK
        go_wp2
        go_roundw
        case rel => exact ⟨_, _, _, _, _, _, _, _, _, _, _, _, rfl, rfl, rfl, hX, HRY, HO9, HM2, HB9⟩
        case measure => simp only [slLen]; omega
end Go.Proofs.Ytdgjinfaopkalaa
