/-
  The library's Delete of one table; what without does.
-/
import Derived.Test.YthhlckdglifmeaaVn9
namespace Go.Proofs.Ythhlckdglifmeaa
open Go.RowKit
set_option linter.unusedVariables false
set_option linter.unusedSimpArgs false

theorem wpList_slLHM {P : Program} {w : World} {ops : Array Oper} {rest : List Oper} {o : Oper} {a : Act} {Q : Exit → Act → World → Prop} (hgd : o.guard = none) (x lo hi mx : Operand) (t : TypeId) (ht : P.underlying t = some (.slice (P.elem t)))
    (ho : o.op = .slice t x (some lo) (some hi) (some mx)) {v vl vh vm v' : Value} (hx : a.eval x = v) (hlo : a.eval lo = vl) (hhi : a.eval hi = vh) (hmx : a.eval mx = vm) (hrun : ∀ wx, (Instr.slice t v (some vl) (some vh) (some vm)).run P wx = .ok v' wx) (h : wpList P ops Q rest (a.put o.dst v') w) : wpList P ops Q (o :: rest) a w := by
  refine wpList_plain hgd fun K hK => ?_
  unfold Oper.wp execOp
  simp only [ho, Option.map_some, Option.map_none, hx, hlo, hhi, hmx, run_sliceAt_slice w t _ _ _ _ ht, Sem.run_bind, hrun w, Result.andThen_ok, Sem.run_pure]
  exact hK _ _ h
theorem wpList_slLH {P : Program} {w : World} {ops : Array Oper} {rest : List Oper} {o : Oper} {a : Act} {Q : Exit → Act → World → Prop} (hgd : o.guard = none) (x lo hi : Operand) (t : TypeId) (ht : P.underlying t = some (.slice (P.elem t)))
    (ho : o.op = .slice t x (some lo) (some hi) none) {v vl vh v' : Value} (hx : a.eval x = v) (hlo : a.eval lo = vl) (hhi : a.eval hi = vh) (hrun : ∀ wx, (Instr.slice t v (some vl) (some vh) none).run P wx = .ok v' wx) (h : wpList P ops Q rest (a.put o.dst v') w) : wpList P ops Q (o :: rest) a w := by
  refine wpList_plain hgd fun K hK => ?_
  unfold Oper.wp execOp
  simp only [ho, Option.map_some, Option.map_none, hx, hlo, hhi, run_sliceAt_slice w t _ _ _ _ ht, Sem.run_bind, hrun w, Result.andThen_ok, Sem.run_pure]
  exact hK _ _ h
theorem exec_slL {P : Program} {o : Oper} {a : Act} {x lo : Operand} {t : TypeId} {v vl v' : Value} {w : World} (ht : P.underlying t = some (.slice (P.elem t))) (ho : o.op = .slice t x (some lo) none none) (hx : a.eval x = v) (hlo : a.eval lo = vl)
    (hrun : ∀ wx, (Instr.slice t v (some vl) none none).run P wx = .ok v' wx) : (execOp a.eval o).run P w = .ok (.value v') w := by
  unfold execOp
  simp only [ho, Option.map_some, Option.map_none, hx, hlo, run_sliceAt_slice w t _ _ _ _ ht, Sem.run_bind, hrun w, Result.andThen_ok, Sem.run_pure]
theorem exec_slHi {P : Program} {o : Oper} {a : Act} {x hi : Operand} {t : TypeId} {v vh v' : Value} {w : World} (ht : P.underlying t = some (.slice (P.elem t))) (ho : o.op = .slice t x none (some hi) none) (hx : a.eval x = v) (hhi : a.eval hi = vh)
    (hrun : ∀ wx, (Instr.slice t v none (some vh) none).run P wx = .ok v' wx) : (execOp a.eval o).run P w = .ok (.value v') w := by
  unfold execOp
  simp only [ho, Option.map_some, Option.map_none, hx, hhi, run_sliceAt_slice w t _ _ _ _ ht, Sem.run_bind, hrun w, Result.andThen_ok, Sem.run_pure]
theorem wpList_runclrV {P : Program} {w w' : World} {ops : Array Oper} {rest : List Oper} {o : Oper} {a : Act} {Q : Exit → Act → World → Prop} (hgd : o.guard = none) (s : Operand) (t : TypeId)
    (ho : o.op = .call { callee := .builtin .clear, args := #[s], argTypes := #[t] }) {v v' : Value} (hs : a.eval s = v)
    (hrun : (Builtin.clear_ #[t] o.type #[v]).run P w = .ok v' w') (h : wpList P ops Q rest (a.put o.dst v') w') : wpList P ops Q (o :: rest) a w := by
  refine wpList_plain hgd fun K hK => ?_
  unfold Oper.wp execOp
  simp only [ho, resolve, invoke, builtin, Sem.run_bind, Sem.run_pure, Result.andThen_ok, List.map_toArray, List.map_cons, List.map_nil, hs, hrun]
  exact hK _ _ h
theorem sizeMv (wx : World) : (sizeOf (Try.prog.elem 26)).run Try.prog wx = .ok 5 wx := by
  rw [show Try.prog.elem 26 = 28 by kernel_rfl]
  obtain ⟨i0, hi, hz0, hz1, hz2⟩ := info_parts Try.infoMt
  simp [sizeOf, typeInfo, hi, hz1]
theorem slMlhm (g n c i j : Nat) (hij : i ≤ j) (hj : j ≤ n) (hn : n ≤ c) (wx : World) : ∃ v, (Instr.slice 26 (.slice (some ⟨g, 0, none⟩) n c) (some (.int .i64 i)) (some (.int .i64 j)) (some (.int .i64 n))).run Try.prog wx = .ok v wx ∧ v = sliced (some ⟨g, 0, none⟩) i j n 5 :=
  ⟨_, by rw [run_slice_lhm wx 26 _ n c (by kernel_rfl) .i64 .i64 .i64 i j n (by omega) (by omega) (by omega) (by omega), sizeMv wx]; rfl, by simp⟩
theorem slMh (g n c k : Nat) (hc : k < c) (wx : World) : (Instr.slice 26 (.slice (some ⟨g, 0, none⟩) n c) none (some (.int .i64 k)) none).run Try.prog wx = .ok (.slice (some ⟨g, 0, none⟩) k c) wx := by
  rw [run_slice_h wx 26 _ n c (by kernel_rfl) .i64 k (by omega) (by omega), sizeMv wx]
  simp only [Result.andThen, sliced, Int.toNat_natCast, Nat.sub_zero]
  by_cases h : c = 0
  · omega
  · simp [h, Addr.add]
theorem slMl (g n c k : Nat) (hk : k ≤ n) (wx : World) : ∃ b, ((∀ wx, (Instr.slice 26 (.slice (some ⟨g, 0, none⟩) n c) (some (.int .i64 k)) none none).run Try.prog wx = .ok (.slice (some ⟨g, b, none⟩) (n - k) (c - k)) wx) ∧ (k < c → b = k * 5)) := by
  by_cases h : c = k
  · refine ⟨0, fun wx => ?_, fun q => by omega⟩
    rw [run_slice_l wx 26 _ n c (by kernel_rfl) .i64 k (by omega) (by omega), sizeMv wx]
    simp [Result.andThen, sliced, h]
  · refine ⟨k * 5, fun wx => ?_, fun _ => rfl⟩
    rw [run_slice_l wx 26 _ n c (by kernel_rfl) .i64 k (by omega) (by omega), sizeMv wx]
    simp [Result.andThen, sliced, h, Addr.add_lit]
theorem slMlh (g n m c k : Nat) (hk : k ≤ m) (hm : m ≤ c) (hc : k < c) (wx : World) : (Instr.slice 26 (.slice (some ⟨g, 0, none⟩) n c) (some (.int .i64 k)) (some (.int .i64 m)) none).run Try.prog wx = .ok (.slice (some ⟨g, k * 5, none⟩) (m - k) (c - k)) wx := by
  rw [run_slice_lh wx 26 _ n c (by kernel_rfl) .i64 .i64 k m (by omega) (by omega) (by omega), sizeMv wx]
  simp [Result.andThen, sliced, Nat.ne_of_gt hc, Addr.add_lit]
abbrev ceM (l : List Mta) : List Value := l.flatMap ecM
theorem ceM_len (l : List Mta) : (ceM l).length = l.length * 5 := flatG_len ecM_len l
theorem ceM_take (l : List Mta) (i : Nat) (hi : i ≤ l.length) : (ceM l).take (i * 5) = ceM (l.take i) := by
  conv => lhs; rw [← List.take_append_drop i l, ceM, List.flatMap_append]
  rw [List.take_append_of_le_length (by rw [ceM_len, List.length_take]; omega), List.take_of_length_le (by rw [ceM_len, List.length_take]; omega)]
theorem ceM_one (l : List Mta) : ∀ v ∈ ceM l, v.oneCell' = true := by
  intro v hv
  obtain ⟨x, _, hx⟩ := List.mem_flatMap.1 hv
  exact ecM_one x v hx
theorem setRow_grownV (w : World) (g : Nat) (cs : Array Value) : w.grownBy (w.setRow g cs) (some g) :=
  ⟨rfl, rfl, rfl, by simp [World.setRow], fun k _ hk => setRow_other w g k cs (fun e => hk (by rw [e]))⟩
theorem OwM.block {w : World} {base g n c : Nat} {l : List Mta} (h : OwM w base (.slice (some ⟨g, 0, none⟩) n c) l) :
    ∃ cur : Array Value, n = l.length ∧ base ≤ g ∧ w.heap[g]? = some (.cells cur 28 (0, 0)) ∧ n ≤ c ∧ c ≤ maxLen ∧ cur.size = c * 5 ∧ cur.toList.take (n * 5) = ceM l := by
  rcases h.2 with ⟨e, _⟩ | ⟨g', cap, cur, e, hb, hg, hn, hm, hsz, htake⟩
  · cases e
  · cases e; exact ⟨cur, rfl, hb, hg, hn, hm, hsz, htake⟩
theorem OwM.cut {w : World} {base g n c : Nat} {l : List Mta} (h : OwM w base (.slice (some ⟨g, 0, none⟩) n c) l) (k : Nat) (hk : k ≤ n) : OwM w base (.slice (some ⟨g, 0, none⟩) k c) (l.take k) := by
  obtain ⟨cur, rfl, hb, hg, hnc, hcm, hsz, htake⟩ := h.block
  have hl : (l.take k).length = k := by rw [List.length_take]; omega
  refine ⟨by rw [show ((l.take k).flatMap ecM).length = _ from ceM_len _], .inr ⟨g, c, cur, by rw [hl], hb, hg, by omega, hcm, hsz, ?_⟩⟩
  have := congrArg (List.take (k * 5)) htake
  rw [List.take_take, Nat.min_eq_left (by omega), ceM_take l k (by omega)] at this
  rw [hl]; exact this
theorem clear_m {w : World} {base g n c : Nat} {l : List Mta} (h : OwM w base (.slice (some ⟨g, 0, none⟩) n c) l) (hk : n < c) (hB : base ≤ w.heap.size) (ty : TypeId) :
    ∃ w', (Builtin.clear_ #[26] ty #[.slice (some ⟨g, n * 5, none⟩) (n + 1 - n) (c - n)]).run Try.prog w = .ok (.tuple #[]) w' ∧ OwM w' base (.slice (some ⟨g, 0, none⟩) n c) l ∧ Below base w w' := by
  obtain ⟨cur, hnl, hb, hg, hnc, hcm, hsz, htake⟩ := h.block
  obtain ⟨i0, hi, hz0, hz1, hz2⟩ := info_parts Try.infoMt
  have hz : ∀ w, (zeroValue 28).run Try.prog w = .ok (.agg #[.string ByteArray.empty, .int .i64 0, .int .i64 0, .string ByteArray.empty, .string ByteArray.empty]) w := by intro w; simp [zeroValue, typeInfo, hi, hz0]
  have hzc : (Builtin.zeroCells (Value.cells (.agg #[.string ByteArray.empty, .int .i64 0, .int .i64 0, .string ByteArray.empty, .string ByteArray.empty])) 1).toList = [.string ByteArray.empty, .int .i64 0, .int .i64 0, .string ByteArray.empty, .string ByteArray.empty] := by
    have e0 : Value.cells (.agg #[.string ByteArray.empty, .int .i64 0, .int .i64 0, .string ByteArray.empty, .string ByteArray.empty]) = #[.string ByteArray.empty, .int .i64 0, .int .i64 0, .string ByteArray.empty, .string ByteArray.empty] := by first | rfl | simp [Value.cells]
    rw [e0]
    simp [Builtin.zeroCells, List.range, List.range.loop]
  have hst := run_storeCells_at Try.prog g (n * 5) 28 [.string ByteArray.empty, .int .i64 0, .int .i64 0, .string ByteArray.empty, .string ByteArray.empty] 0 cur w hg (by simp; omega) (by
    intro v hv
    simp at hv
    rcases hv with rfl | rfl | rfl <;> rfl)
  simp only [Nat.add_zero, List.length_cons, List.length_nil] at hst
  refine ⟨w.setRow g (cur.toList.take (n * 5) ++ [Value.string ByteArray.empty, .int .i64 0, .int .i64 0, .string ByteArray.empty, .string ByteArray.empty] ++ cur.toList.drop (n * 5 + 5)).toArray, ?_, ?_, ?_⟩
  rotate_left
  · refine ⟨by rw [show (l.flatMap ecM).length = _ from ceM_len _], .inr ⟨g, c, _, by rw [hnl], hb, setRow_heap w g cur _ 28 _ hg, by omega, hcm, ?_, ?_⟩⟩
    · simp only [List.size_toArray, List.length_append, List.length_take, List.length_cons, List.length_nil, List.length_drop, Array.length_toList]; omega
    · have e : (cur.toList.take (n * 5)).length = n * 5 := by rw [List.length_take, Array.length_toList]; omega
      rw [← hnl, List.append_assoc, List.take_append_of_le_length (by omega), List.take_take, Nat.min_self]
      exact htake
  · exact (Below.refl _ _).grown (setRow_grownV w g _) hB fun j hj => by
      injection hj with hj
      subst hj
      exact hb
  · rw [Nat.add_sub_cancel_left]
    simp [Builtin.clear_, run_underlying Try.underlying26, hz, hzc, hst]
theorem move_m {w : World} {base g n c i b : Nat} {l : List Mta} (h : OwM w base (.slice (some ⟨g, 0, none⟩) n c) l) (hi : i < n) (hB : base ≤ w.heap.size) (hb : i + 1 < c → b = (i + 1) * 5) :
    ∃ w', (Builtin.append_ #[26, 26] 26 #[.slice (some ⟨g, 0, none⟩) i c, .slice (some ⟨g, b, none⟩) (n - (i + 1)) (c - (i + 1))]).run Try.prog w = .ok (.slice (some ⟨g, 0, none⟩) (n - 1) c) w' ∧ OwM w' base (.slice (some ⟨g, 0, none⟩) (n - 1) c) (l.take i ++ l.drop (i + 1)) ∧ Below base w w' := by
  obtain ⟨cur, hnl, hbg, hg, hnc, hcm, hsz, htake⟩ := h.block
  obtain ⟨i0, hi0, hz0, hz1, hz2⟩ := info_parts Try.infoMt
  have hcut := h.cut i (by omega)
  have hli : (l.take i).length = i := by rw [List.length_take]; omega
  have hown : w.ownsRow base 28 5 (.slice (some ⟨g, 0, none⟩) i c) i ((l.take i).flatMap ecM) := by have := hcut; unfold OwM OwG at this; rwa [hli] at this
  have hld : (l.drop (i + 1)).length = n - (i + 1) := by rw [List.length_drop]; omega
  obtain ⟨w', hr, ho, hgr⟩ := run_append_fits (P := Try.prog) w base 26 26 28 i0 5 Try.underlying26 hi0 hz1 g i c _ hown ⟨g, b, none⟩ (n - (i + 1)) (c - (i + 1)) (ceM (l.drop (i + 1))) (by rw [ceM_len, hld]) (by
    intro j u hj
    have hjl : j < (n - (i + 1)) * 5 := by
      have := (List.getElem?_eq_some_iff.1 hj).1
      rw [ceM_len, hld] at this; exact this
    have hb' := hb (by omega)
    have e2 : (ceM l)[(i + 1) * 5 + j]? = some u := by
      have : ceM l = ceM (l.take (i + 1)) ++ ceM (l.drop (i + 1)) := by rw [← List.flatMap_append, List.take_append_drop]
      rw [this, List.getElem?_append_right (by rw [ceM_len, List.length_take]; omega), ceM_len, List.length_take, Nat.min_eq_left (by omega), Nat.add_sub_cancel_left]
      exact hj
    rw [← htake, List.getElem?_take_of_lt (by omega)] at e2
    rw [Addr.add_lit, hb', cell_of_row w g _ _ _ (0, 0) hg]
    rw [← Array.getElem?_toList]; exact e2) (ceM_one _) (by omega)
  have en : i + (n - (i + 1)) = n - 1 := by omega
  rw [en] at hr ho
  refine ⟨w', hr, ?_, (Below.refl _ _).grown hgr hB fun j hj => by cases hj; exact hbg⟩
  unfold OwM OwG
  rw [List.flatMap_append, List.length_append, hli, hld, en]
  exact ho

set_option maxHeartbeats 4000000 in
set_option maxRecDepth 100000 in
theorem delete_vn (base g n c i : Nat) (l : List Mta) (w : World) (h : OwM w base (.slice (some ⟨g, 0, none⟩) n c) l) (hi : i < n) (hB : base ≤ w.heap.size) (hn : n ≤ 1000000) :
    Calls Try.prog 48 #[.slice (some ⟨g, 0, none⟩) n c, .int .i64 i, .int .i64 ((i : Int) + 1)] w fun e w' => e = .returned (.slice (some ⟨g, 0, none⟩) (n - 1) c) ∧ OwM w' base (.slice (some ⟨g, 0, none⟩) (n - 1) c) (l.take i ++ l.drop (i + 1)) ∧ Below base w w' := by
  obtain ⟨cur, hnl, hbg, hg, hnc, hcm, hsz, htake⟩ := h.block
  have hs1 : ∀ wx, (Instr.slice 26 (.slice (some ⟨g, 0, none⟩) n c) (some (.int .i64 i)) (some (.int .i64 ((i : Int) + 1))) (some (.int .i64 n))).run Try.prog wx = .ok (sliced (some ⟨g, 0, none⟩) i (i + 1) n 5) wx := fun wx => by
    obtain ⟨v, e, rfl⟩ := slMlhm g n c i (i + 1) (by omega) (by omega) hnc wx
    exact e
  obtain ⟨v1, hv1⟩ : ∃ v1, v1 = sliced (some ⟨g, 0, none⟩) i (i + 1) n 5 := ⟨_, rfl⟩
  rw [← hv1] at hs1
  have hsh := slMh g n c i (by omega)
  obtain ⟨b, hsl0, hb⟩ := slMl g n c (i + 1) (by omega) w
  have hsl : ∀ wx, (Instr.slice 26 (.slice (some ⟨g, 0, none⟩) n c) (some (.int .i64 ((i : Int) + 1))) none none).run Try.prog wx = .ok (.slice (some ⟨g, b, none⟩) (n - (i + 1)) (c - (i + 1))) wx := hsl0
  have hd : OwM w.drew base (.slice (some ⟨g, 0, none⟩) n c) l := h.carry (Below.refl _ _).drew
  obtain ⟨w5, hr5, ho5, hb5⟩ := move_m hd hi (Nat.le_trans hB (Below.refl base w).drew.size) hb
  have hlc : (n - 1) < c := by omega
  obtain ⟨w7, hr7, ho7, hb7⟩ := clear_m ho5 hlc (Nat.le_trans (Nat.le_trans hB (Below.refl base w).drew.size) hb5.size) 0
  have hsx := slMlh g (n - 1) n c (n - 1) (by omega) hnc hlc
  have hr7' : ∀ ty, (Builtin.clear_ #[26] ty #[.slice (some ⟨g, (n - 1) * 5, none⟩) (n - (n - 1)) (c - (n - 1))]).run Try.prog w5 = .ok (.tuple #[]) w7 := fun ty => by
    rw [show n - (n - 1) = n - 1 + 1 - (n - 1) by omega]; exact hr7
  have HO7 := hide ho7
  have HB7 := hide ((((Below.refl base w).drew).trans hb5).trans hb7)
  have hne : ((i : Int) == (i : Int) + 1) = false := by simpa using (by omega : ¬ (i : Int) = (i : Int) + 1)
  obtain ⟨m, hm⟩ : ∃ m, m = n - 1 := ⟨_, rfl⟩
  have hmm : (n : Int) - 1 = m := by omega
  clear hnl hcm hsz htake hg hbg h hd ho5 ho7 hb7 hr7 hv1 hsl0 hb
  go_enter Try.func48, Try.ntmps48
  go_wp2_with (refine wpList_slLHM rfl (.tmp 8) (.tmp 9) (.tmp 10) (.tmp 12) 26 (by kernel_rfl) rfl rfl rfl rfl rfl hs1 ?_)
  refine reg_begin (S := fun wx => Below base w wx) (fun w2 w3 h hb => h.trans (hb.mono (Nat.le_trans hB h.size))) (by kernel_rfl) (Below.refl _ _) ?_
  intro hS
  have hr5d := hr5
  clear hr5
  generalize w.drew = wd at *
  refine reg_plan [0, 1, 2, 3, 4, 5] (fuel := 2) (a' := ?qaa1) (by kernel_rfl) (by kernel_rfl) (by kernel_rfl) ?qap1 hS ?qan1
  case qap1 =>
    apply Yl.cons rfl (by kernel_rfl)
    focus (rintro wx _; go_simp; all_goals (with_reducible rfl))
    try simp only [Act.put, List.setIfInBounds_toArray, List.set_cons_zero, List.set_cons_succ]
    apply Yl.cons rfl (by kernel_rfl)
    focus (rintro wx _; go_simp; all_goals (with_reducible rfl))
    try simp only [Act.put, List.setIfInBounds_toArray, List.set_cons_zero, List.set_cons_succ]
    apply Yl.cons rfl (by kernel_rfl)
    focus (rintro wx _; exact exec_slHi (by kernel_rfl) rfl rfl rfl hsh)
    try simp only [Act.put, List.setIfInBounds_toArray, List.set_cons_zero, List.set_cons_succ]
    apply Yl.cons rfl (by kernel_rfl)
    focus (rintro wx _; go_simp; all_goals (with_reducible rfl))
    try simp only [Act.put, List.setIfInBounds_toArray, List.set_cons_zero, List.set_cons_succ]
    apply Yl.cons rfl (by kernel_rfl)
    focus (rintro wx _; go_simp; all_goals (with_reducible rfl))
    try simp only [Act.put, List.setIfInBounds_toArray, List.set_cons_zero, List.set_cons_succ]
    apply Yl.cons rfl (by kernel_rfl)
    focus (rintro wx _; exact exec_slL (by kernel_rfl) rfl rfl rfl hsl)
    try simp only [Act.put, List.setIfInBounds_toArray, List.set_cons_zero, List.set_cons_succ]
    exact Yl.nil
  refine reg_run (i := 6) (v := .slice (some ⟨g, 0, none⟩) (n - 1) c) (w' := w5) rfl (by kernel_rfl) (by kernel_rfl) (exec_appY rfl rfl rfl hr5d) (hS.trans hb5) ?_
  clear hr5d
  have hS5 := hS.trans hb5
  clear hS
  have hS := hS5
  clear hS5
  try simp only [Act.put, List.setIfInBounds_toArray, List.set_cons_zero, List.set_cons_succ]
  refine reg_plan [7] (fuel := 0) (a' := ?qaa2) (by kernel_rfl) (by kernel_rfl) (by kernel_rfl) ?qap2 hS ?qan2
  case qap2 =>
    iterate 1 (apply Yl.cons rfl (by kernel_rfl); focus (rintro wx _; go_simp; all_goals (with_reducible rfl)); try simp only [Act.put, List.setIfInBounds_toArray, List.set_cons_zero, List.set_cons_succ])
    exact Yl.nil
  refine wpAnyH_done (by kernel_rfl) ?_ _
  refine NoPanic.normal ?_
  try simp only [Act.put, List.setIfInBounds_toArray, List.set_cons_zero, List.set_cons_succ]
  go_wp2_with (first | (refine wpList_slLH rfl (.tmp 27) (.tmp 29) (.tmp 30) 26 (by kernel_rfl) rfl rfl rfl rfl hsx ?_) | (at_builtin; refine wpList_runclrV rfl (.tmp 31) 26 rfl rfl (hr7' _) ?_))
  go_ret
  exact ⟨rfl, HO7.out, HB7.out⟩
end Go.Proofs.Ythhlckdglifmeaa
