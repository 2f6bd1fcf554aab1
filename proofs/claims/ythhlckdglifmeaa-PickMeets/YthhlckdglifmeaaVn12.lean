/-
  The library's Insert of one table.
-/
import Derived.Test.YthhlckdglifmeaaVn11
import Derived.Lib.AppendZerosOnto
import Derived.Lib.Overlaps
namespace Go.Proofs.Ythhlckdglifmeaa
open Go.RowKit
set_option linter.unusedVariables false
set_option linter.unusedSimpArgs false

theorem ceM_drop (l : List Mta) (i : Nat) (hi : i ≤ l.length) : (ceM l).drop (i * 5) = ceM (l.drop i) := by
  conv => lhs; rw [← List.take_append_drop i l, ceM, List.flatMap_append]
  rw [List.drop_append_of_le_length (by rw [ceM_len, List.length_take]; omega), List.drop_of_length_le (by rw [ceM_len, List.length_take]; omega)]; rfl
theorem run_copyM (w : World) (ty : TypeId) (g o dLen dCap : Nat) (a : Addr) (sLen sCap : Nat) (cur : Array Value) (cs : List Value)
    (hg : w.heap[g]? = some (.cells cur 28 (0, 0))) (hn : cs.length = Nat.min sLen dLen * 5)
    (hsrc : ∀ j v, cs[j]? = some v → w.cell? (a.add j) = some v) (hfit : o + cs.length ≤ cur.size) (h1 : ∀ v ∈ cs, v.oneCell' = true) :
    (Builtin.copy_ #[26, 26] ty #[.slice (some ⟨g, o, none⟩) dLen dCap, .slice (some a) sLen sCap]).run Try.prog w =
      .ok (goInt (Nat.min sLen dLen)) (w.setRow g (cur.toList.take o ++ cs ++ cur.toList.drop (o + cs.length)).toArray) := by
  have hl := run_loadCells_list (P := Try.prog) w a cs hsrc
  have hst := run_storeCells_at Try.prog g o 28 cs 0 cur w hg (by simpa using hfit) h1
  obtain ⟨i0, hi, hz0, hz1, hz2⟩ := info_parts Try.infoMt
  simp [Builtin.copy_, run_underlying Try.underlying26, Builtin.lenOf, Builtin.firstCells, sizeOf, typeInfo, hi, hz1, ← hn, hl, hst]
theorem OwM.laid {w : World} {base g n c m : Nat} {l qs : List Mta} (h : OwM w base (.slice (some ⟨g, 0, none⟩) n c) l) (new : List Value) (hnl : new.length = c * 5) (hm : m = qs.length) (hmc : m ≤ c)
    (ht : new.take (m * 5) = ceM qs) : OwM (w.setRow g new.toArray) base (.slice (some ⟨g, 0, none⟩) m c) qs ∧ w.grownBy (w.setRow g new.toArray) (some g) := by
  obtain ⟨cur, rfl, hb, hg, hnc, hcm, hsz, htake⟩ := OwM.block h
  have hgr := setRow_grownV w g new.toArray
  exact ⟨⟨by rw [show (qs.flatMap ecM).length = _ from ceM_len qs], .inr ⟨g, c, new.toArray, by rw [hm], hb, setRow_heap w g cur _ 28 _ hg, by omega, hcm, by simpa using hnl, by subst hm; simpa using ht⟩⟩, hgr⟩
theorem run_cpyV {P : Program} {o : Oper} {a : Act} {s x : Operand} {t : TypeId} {v y v' : Value} {w w' : World} (ho : o.op = .call { callee := .builtin .copy, args := #[s, x], argTypes := #[t, t] }) (hs : a.eval s = v) (hx : a.eval x = y)
    (hrun : (Builtin.copy_ #[t, t] o.type #[v, y]).run P w = .ok v' w') : (execOp a.eval o).run P w = .ok (.value v') w' := by
  simp [execOp, ho, resolve, invoke, builtin, hs, hx, hrun, Result.andThen]
theorem wpList_runcpyV {P : Program} {w w' : World} {ops : Array Oper} {rest : List Oper} {o : Oper} {a : Act} {Q : Exit → Act → World → Prop} (hgd : o.guard = none) (s x : Operand) (t : TypeId)
    (ho : o.op = .call { callee := .builtin .copy, args := #[s, x], argTypes := #[t, t] }) {v vx v' : Value} (hs : a.eval s = v) (hx : a.eval x = vx)
    (hrun : (Builtin.copy_ #[t, t] o.type #[v, vx]).run P w = .ok v' w') (h : wpList P ops Q rest (a.put o.dst v') w') : wpList P ops Q (o :: rest) a w := by
  refine wpList_plain hgd fun K hK => ?_
  unfold Oper.wp execOp
  simp only [ho, resolve, invoke, builtin, Sem.run_bind, Sem.run_pure, Result.andThen_ok, List.map_toArray, List.map_cons, List.map_nil, hs, hx, hrun]
  exact hK _ _ h
theorem wpList_runapzV {P : Program} {w w' : World} {ops : Array Oper} {rest : List Oper} {o : Oper} {a : Act} {Q : Exit → Act → World → Prop} (hgd : o.guard = none) (s x : Operand) (t u : TypeId)
    (ho : o.op = .call { callee := .builtin .append, args := #[s, x], argTypes := #[t, u] }) {v vx v' : Value} (hs : a.eval s = v) (hx : a.eval x = vx)
    (hrun : (Builtin.append_ #[t, u] o.type #[v, vx]).run P w = .ok v' w') (h : wpList P ops Q rest (a.put o.dst v') w') : wpList P ops Q (o :: rest) a w := by
  refine wpList_plain hgd fun K hK => ?_
  unfold Oper.wp execOp
  simp only [ho, resolve, invoke, builtin, Sem.run_bind, Sem.run_pure, Result.andThen_ok, List.map_toArray, List.map_cons, List.map_nil, hs, hx, hrun]
  exact hK _ _ h

theorem layV_two (R A B D : List Value) (k : Nat) (hA : R.take k = A) (hk : A.length = k) (hl : k + B.length + D.length ≤ R.length) :
    (((R.take k ++ B ++ R.drop (k + B.length)).take (k + B.length) ++ D ++ (R.take k ++ B ++ R.drop (k + B.length)).drop (k + B.length + D.length))).take (k + B.length + D.length) = A ++ B ++ D := by
  rw [hA]
  have e1 : (A ++ B ++ R.drop (k + B.length)).take (k + B.length) = A ++ B := by
    rw [List.take_append_of_le_length (by rw [List.length_append]; omega), List.take_of_length_le (by rw [List.length_append]; omega)]
  rw [e1, List.take_append_of_le_length (by simp only [List.length_append]; omega), List.take_of_length_le (by simp only [List.length_append]; omega)]
theorem layV_two' (R A B D : List Value) (k : Nat) (hA : R.take k = A) (hk : A.length = k) (hl : k + B.length + D.length ≤ R.length) :
    ((R.take (k + B.length) ++ D ++ R.drop (k + B.length + D.length)).take k ++ B ++ (R.take (k + B.length) ++ D ++ R.drop (k + B.length + D.length)).drop (k + B.length)).take (k + B.length + D.length) = A ++ B ++ D := by
  have e0 : (R.take (k + B.length)).length = k + B.length := by rw [List.length_take]; omega
  have e1 : (R.take (k + B.length) ++ D ++ R.drop (k + B.length + D.length)).take k = A := by
    rw [List.append_assoc, List.take_append_of_le_length (by omega), List.take_take, Nat.min_eq_left (by omega), hA]
  have e2 : (R.take (k + B.length) ++ D ++ R.drop (k + B.length + D.length)).drop (k + B.length) = D ++ R.drop (k + B.length + D.length) := by
    rw [List.append_assoc, List.drop_append_of_le_length (by omega), List.drop_of_length_le (by omega)]; rfl
  rw [e1, e2, ← List.append_assoc, List.take_append_of_le_length (by simp only [List.length_append]; omega), List.take_of_length_le (by simp only [List.length_append]; omega)]
theorem lenV_two (R B : List Value) (k : Nat) (hl : k + B.length ≤ R.length) : (R.take k ++ B ++ R.drop (k + B.length)).length = R.length := by
  simp only [List.length_append, List.length_take, List.length_drop]; omega

theorem insV_lenI (ps : List Mta) (i : Nat) (q : Mta) (hi : i ≤ ps.length) : (insV ps i q).length = ps.length + 1 := by
  simp only [insV, List.length_append, List.length_take, List.length_drop, List.length_cons, List.length_nil]; omega
theorem insV_cells (ps : List Mta) (i : Nat) (q : Mta) : ceM (insV ps i q) = ceM (ps.take i) ++ ecM q ++ ceM (ps.drop i) := by
  simp [insV, ceM]
theorem OnlyM.grown {v : Value} {w w1 w' : World} (h : Below w.heap.size w w1) (g : w1.grownBy w' v.ownBlock) : OnlyM v w w' := fun k hk hn => (g.block k (Nat.lt_of_lt_of_le hk h.size) (fun e => hn e.symm)).trans (h.block k hk)
def InsM (v : Value) (base : Nat) (ps : List Mta) (i : Nat) (q : Mta) (w : World) (e : Ending) (w' : World) : Prop :=
  ∃ v', e = .returned v' ∧ OwM w' base v' (insV ps i q) ∧ Below base w w' ∧ OnlyM v w w'
theorem app_meta1 {w : World} {base B : Nat} {v : Value} {l : List Mta} (h : OwM w base v l) (hb : base ≤ w.heap.size) (hl : l.length ≤ 1000000) (x : Mta) (hB : w.heap[B]? = some (.cells #[.string (bs x.1), .int .i64 x.2.1, .int .i64 x.2.2.1, .string (bs (Mlo x)), .string (bs (Mhi x))] 28 (0, 0))) :
    ∃ g c w', (Builtin.append_ #[26, 26] 26 #[v, .slice (some ⟨B, 0, none⟩) 1 1]).run Try.prog w = .ok (.slice (some ⟨g, 0, none⟩) (l.length + 1) c) w' ∧
      OwM w' base (.slice (some ⟨g, 0, none⟩) (l.length + 1) c) (l ++ [x]) ∧ Below base w w' ∧ OnlyM v w w' := by
  have hn8 : ∀ j u, (ecM x)[j]? = some u → w.cell? ((⟨B, 0, none⟩ : Addr).add j) = some u := by
    intro j u hj
    have := World.news_of_block (w := w) hB j u (by simpa [ecM] using hj)
    simpa using this
  obtain ⟨i0, hi, hz0, hz1, hz2⟩ := info_parts Try.infoMt
  obtain ⟨v9, w9, hrun9, hown9, hg9, _⟩ := run_append_own (P := Try.prog) w base 26 26 28 i0 _ 5 64 Try.underlying26 hi hz0 hz1 hz2 rfl (by decide) _ _ _ h ⟨B, 0, none⟩ 1 1 (ecM x) rfl hn8 (ecM_one x) (by unfold maxLen; omega) (by omega) hb
  have hb9 : Below base w w9 := (Below.refl _ _).grown hg9 hb fun k hk => (World.ownsRow.lt h k hk).1
  rcases hown9.2 with ⟨_, h1⟩ | ⟨g, cap, cur, h1, _⟩
  · exact absurd h1 (by omega)
  · subst h1
    refine ⟨g, cap, w9, hrun9, ?_, hb9, OnlyM.grown (Below.refl _ _) hg9⟩
    have e : (l ++ [x]).flatMap ecM = l.flatMap ecM ++ ecM x := by simp
    unfold OwM OwG
    rw [e, List.length_append]
    exact hown9

set_option maxHeartbeats 1000000 in
set_option maxRecDepth 100000 in
theorem insert_endV (base : Nat) (a : Option Addr) (n c : Nat) (ps : List Mta) (q : Mta) (B : Nat) (w : World) (hB : w.heap[B]? = some (.cells #[.string (bs q.1), .int .i64 q.2.1, .int .i64 q.2.2.1, .string (bs (Mlo q)), .string (bs (Mhi q))] 28 (0, 0))) (hown : OwM w base (.slice a n c) ps) (hn : n = ps.length) (hl : n ≤ 1000) (hb : base ≤ w.heap.size) :
    Calls Try.prog 50 #[.slice a n c, .int .i64 n, .slice (some ⟨B, 0, none⟩) 1 1] w (InsM (.slice a n c) base ps n q w) := by
  obtain ⟨g, cc, w9, hrun, ho9, hb9, hk9⟩ := app_meta1 hown hb (by omega) q hB
  have hnc : n ≤ c := by
    rcases hown.2 with ⟨e, h0⟩ | ⟨g, cap, cur, e, _, _, h1, _⟩
    · cases e; omega
    · cases e; omega
  have HO := hide (show OwM w9 base (.slice (some ⟨g, 0, none⟩) (ps.length + 1) cc) (insV ps n q) by
    have e : insV ps n q = ps ++ [q] := by
      unfold insV
      rw [List.take_of_length_le (by omega), List.drop_of_length_le (by omega), List.append_nil]
    rw [e]; exact ho9)
  clear ho9 hown
  have hnc' : (n : Int) ≤ c := by omega
  have hcm : c = n ∨ ¬ c = n := by omega
  go_enter Try.func50, Try.ntmps50
  rcases hcm with hcm | hcm
  · subst hcm
    go_wp2_with (at_builtin; refine wpList_runappY rfl (.tmp 23) (.tmp 24) 26 rfl rfl rfl rfl hrun ?_)
    go_ret
    exact ⟨_, rfl, HO.out, hb9, hk9⟩
  · go_wp2_with (at_builtin; refine wpList_runappY rfl (.tmp 23) (.tmp 24) 26 rfl rfl rfl rfl hrun ?_)
    all_goals (go_ret; exact ⟨_, rfl, HO.out, hb9, hk9⟩)

set_option maxHeartbeats 2000000 in
set_option maxRecDepth 100000 in
theorem insert_shiftV (base g n c i : Nat) (ps : List Mta) (q : Mta) (B : Nat) (w : World) (hB : w.heap[B]? = some (.cells #[.string (bs q.1), .int .i64 q.2.1, .int .i64 q.2.2.1, .string (bs (Mlo q)), .string (bs (Mhi q))] 28 (0, 0))) (hown : OwM w base (.slice (some ⟨g, 0, none⟩) n c) ps) (hne : B ≠ g) (hn : n = ps.length) (hl : n ≤ 1000) (hb : base ≤ w.heap.size) (hi : i < n) (hroom : n + 1 ≤ c) :
    Calls Try.prog 50 #[.slice (some ⟨g, 0, none⟩) n c, .int .i64 i, .slice (some ⟨B, 0, none⟩) 1 1] w (InsM (.slice (some ⟨g, 0, none⟩) n c) base ps i q w) := by
  obtain ⟨W, hW⟩ : ∃ W, W = w := ⟨_, rfl⟩
  have hbW : Below w.heap.size w W := by rw [hW]; exact Below.refl _ _
  have hblk : W.heap[B]? = some (.cells #[.string (bs q.1), .int .i64 q.2.1, .int .i64 q.2.2.1, .string (bs (Mlo q)), .string (bs (Mhi q))] 28 (0, 0)) := by rw [hW]; exact hB
  have HW := hide hW
  rw [← hW]
  clear hW
  have hoW := hown.carry hbW
  obtain ⟨cur, -, hbg, hg, hnc, hcm, hsz, htake⟩ := OwM.block hoW
  have hgw : g < w.heap.size := by
    obtain ⟨cur', _, _, hg', _⟩ := OwM.block hown
    exact (Array.getElem?_eq_some_iff.1 hg').1
  unfold maxLen at hcm
  obtain ⟨i0, hi0, hz0, hz1, hz2⟩ := info_parts Try.infoMt
  have hov : ∀ lb cb, (callFunc 61 #[.slice (some ⟨B, 0, none⟩) 1 1, .slice (some ⟨g, (i + 1) * 5, none⟩) lb cb]).run Try.prog W = .ok (.value (.bool false)) W := fun lb cb => by
    rw [run_callFunc_extern Try.func61 (by kernel_rfl) (by kernel_rfl) (by kernel_rfl) (e := Extern.SlicesOverlaps.overlaps #[26, 26] #[4]) (by kernel_rfl),
      Lib.run_overlaps_apart W 26 4 28 Try.underlying26 5 (by intro w; simp [sizeOf, typeInfo, hi0, hz1]) ⟨B, 0, none⟩ ⟨g, (i + 1) * 5, none⟩ 1 1 lb cb hne 28 28 5 cur.size (by simp [World.shape?, hblk]) (by simp [World.shape?, hg]) (by rw [hsz]; omega) (frozen_of_row W _ 0 _ _ hblk) (frozen_of_row W _ 5 _ _ hblk)]
    rfl
  have hcl : cur.toList.length = c * 5 := by simpa using hsz
  have hpd : (ceM (ps.drop i)).length = (n - i) * 5 := by rw [ceM_len, List.length_drop, ← hn]
  have hsrc1 : ∀ j v, (ceM (ps.drop i))[j]? = some v → W.drew.cell? ((⟨g, i * 5, none⟩ : Addr).add j) = some v := by
    intro j v hj
    have h1 : (ceM ps)[i * 5 + j]? = some v := by rw [← hj, ← ceM_drop ps i (by omega), List.getElem?_drop]
    have := World.ownsRow.cells hoW (g := g) rfl _ _ h1
    rw [Addr.add_lit] at this ⊢
    simpa using this
  have hone : ∀ v ∈ ceM (ps.drop i), v.oneCell' = true := ceM_one _
  have hcp1 := fun ty => run_copyM W.drew ty g ((i + 1) * 5) (n - i) (c - (i + 1)) ⟨g, i * 5, none⟩ (n + 1 - i) (c - i) cur (ceM (ps.drop i)) hg (by rw [hpd]; congr 1; show _ = min _ _; omega) hsrc1 (by rw [hpd, hsz]; omega) hone
  obtain ⟨R1, hR1⟩ : ∃ R1, R1 = cur.toList.take ((i + 1) * 5) ++ ceM (ps.drop i) ++ cur.toList.drop ((i + 1) * 5 + (ceM (ps.drop i)).length) := ⟨_, rfl⟩
  rw [← hR1] at hcp1
  have hR1l : R1.length = c * 5 := by rw [hR1]; have := lenV_two cur.toList (ceM (ps.drop i)) ((i + 1) * 5) (by rw [hpd, hcl]; omega); rw [this, hcl]
  obtain ⟨W1, hW1⟩ : ∃ W1, W1 = W.drew.setRow g R1.toArray := ⟨_, rfl⟩
  have hg1 : W1.heap[g]? = some (.cells R1.toArray 28 (0, 0)) := by rw [hW1]; exact setRow_heap W.drew g cur _ 28 _ hg
  have hblk1 : W1.heap[B]? = some (.cells #[.string (bs q.1), .int .i64 q.2.1, .int .i64 q.2.2.1, .string (bs (Mlo q)), .string (bs (Mhi q))] 28 (0, 0)) := by rw [hW1]; exact (setRow_other W.drew g _ _ hne).trans hblk
  have hcp2 := fun ty => run_copyM W1 ty g (i * 5) (n + 1 - i) (c - i) ⟨B, 0, none⟩ 1 1 R1.toArray (ecM q) hg1 (by
    have : Nat.min 1 (n + 1 - i) = 1 := by show min _ _ = 1; omega
    rw [this]; rfl) (by
    intro j v hj
    have := World.news_of_block (w := W1) hblk1 j v (by simpa [ecM] using hj)
    simpa using this) (by simp [ecM_len]; omega) (ecM_one q)
  rw [show (R1.toArray.toList) = R1 by simp] at hcp2
  obtain ⟨R2, hR2⟩ : ∃ R2, R2 = R1.take (i * 5) ++ (ecM q) ++ R1.drop (i * 5 + (ecM q).length) := ⟨_, rfl⟩
  rw [← hR2] at hcp2
  have hW2 : W1.setRow g R2.toArray = W.drew.setRow g R2.toArray := by rw [hW1, setRow_setRow]
  rw [hW2] at hcp2
  have HLA := hide (show OwM W.drew base (.slice (some ⟨g, 0, none⟩) n c) ps from hoW)
  have HL2 := hide (OwM.laid HLA.out (m := n + 1) (qs := insV ps i q) R2 (by rw [hR2, lenV_two R1 _ _ (by simp [ecM_len]; omega), hR1l]) (by rw [insV_lenI _ _ _ (by omega)]; omega) hroom (by
    rw [insV_cells, hR2, hR1]
    have e := layV_two' cur.toList (ceM (ps.take i)) (ecM q) (ceM (ps.drop i)) (i * 5) (by
      rw [← ceM_take ps i (by omega), ← htake, List.take_take, Nat.min_eq_left (by omega)]) (by rw [ceM_len, List.length_take]; omega) (by rw [hpd, hcl]; simp [ecM_len]; omega)
    have e3 : i * 5 + (ecM q).length = (i + 1) * 5 := by simp [ecM_len]; omega
    rw [e3, hpd] at e
    rw [e3, hpd, show (n + 1) * 5 = (i + 1) * 5 + (n - i) * 5 by omega]
    exact e))
  have HBB := hide (show Below base w (W.drew.setRow g R2.toArray) from ((hbW.mono hb).drew).grown HL2.out.2 (Nat.le_trans hb hbW.size) (by intro k hk; cases hk; exact hbg))
  have HKB := hide (show OnlyM (.slice (some ⟨g, 0, none⟩) n c) w (W.drew.setRow g R2.toArray) from OnlyM.grown (w1 := W.drew) hbW.drew HL2.out.2)
  obtain ⟨W9, hW9⟩ : ∃ W9, W9 = W.drew.setRow g R2.toArray := ⟨_, rfl⟩
  rw [← hW9] at hcp2 HL2 HBB HKB
  have hcp1' : ∀ ty, (Builtin.copy_ #[26, 26] ty #[.slice (some ⟨g, (i + 1) * 5, none⟩) (n - i) (c - (i + 1)), .slice (some ⟨g, i * 5, none⟩) (n + 1 - i) (c - i)]).run Try.prog W.drew = .ok (goInt (Nat.min (n + 1 - i) (n - i))) W1 := by rw [hW1]; exact hcp1
  clear hW9 hW2 hR2 hR1 hW1 hg1 hblk1 hR1l hcp1 hone hsrc1 hpd hcl hsz htake hg hblk hoW HLA hown hn
  have hw1 : IntKind.i64.wrap ((i : Int) + 1) = (i : Int) + 1 := by rw [IntKind.wrap_i64]; omega
  have hb2 : ¬ (c = i + 1) := by omega
  have hb3 : (i : Int) ≤ (n : Int) + 1 := by omega
  have hb4 : ¬ (c = i) := by omega
  have hz2' : ¬ ((i : Int) = (n : Int)) := by omega
  have hroom' : ¬ ((c : Int) < (n : Int) + 1) := by omega
  have hin' : (i : Int) ≤ n := by omega
  have hin2 : i ≤ n := by omega
  have hb5 : (0 : Int) ≤ (i : Int) + 1 := by omega
  go_enter Try.func50, Try.ntmps50
  go_wp2_with (simp only [hov])
  refine reg_begin (S := fun _ => True) keeps_true (by kernel_rfl) trivial ?_
  intro hS
  refine reg_plan [0, 1, 2, 3, 4, 5, 6, 7] (fuel := 1) (a' := ?qa1) (by kernel_rfl) (by kernel_rfl) (by kernel_rfl) ?qp1 hS ?qn1
  case qp1 =>
    iterate 8 (apply Yl.cons rfl rfl; focus (rintro wx _; go_simp; all_goals (with_reducible rfl)); try simp only [Act.put, List.setIfInBounds_toArray, List.set_cons_zero, List.set_cons_succ])
    exact Yl.nil
  try simp only [Act.put, List.setIfInBounds_toArray, List.set_cons_zero, List.set_cons_succ]
  refine reg_run (i := 8) (v := goInt (Nat.min (n + 1 - i) (n - i))) (w' := W1) rfl (by kernel_rfl) (by rfl) (run_cpyV (v := .slice (some ⟨g, (i + 1) * 5, none⟩) (n - i) (c - (i + 1))) (s := .tmp 73) (x := .tmp 76) (t := 26) (y := .slice (some ⟨g, i * 5, none⟩) (n + 1 - i) (c - i)) rfl (by kernel_rfl) (by kernel_rfl) (hcp1' _)) trivial ?_
  try simp only [Act.put, List.setIfInBounds_toArray, List.set_cons_zero, List.set_cons_succ]
  refine wpAnyH_done (by kernel_rfl) ?_ _
  refine NoPanic.normal ?_
  go_wp2_with (at_builtin; refine wpList_runcpyV rfl (.tmp 80) (.tmp 81) 26 rfl rfl rfl (hcp2 _) ?_)
  go_ret
  exact ⟨_, rfl, HL2.out.1, by rw [HW.out]; exact HBB.out, by rw [HW.out]; exact HKB.out⟩

set_option maxHeartbeats 2000000 in
set_option maxRecDepth 100000 in
theorem insert_growV (base g n c i : Nat) (ps : List Mta) (q : Mta) (B : Nat) (w : World) (hB : w.heap[B]? = some (.cells #[.string (bs q.1), .int .i64 q.2.1, .int .i64 q.2.2.1, .string (bs (Mlo q)), .string (bs (Mhi q))] 28 (0, 0))) (hown : OwM w base (.slice (some ⟨g, 0, none⟩) n c) ps) (hne : B ≠ g) (hn : n = ps.length) (hl : n ≤ 1000) (hb : base ≤ w.heap.size) (hi : i < n) (hroom : c < n + 1) :
    Calls Try.prog 50 #[.slice (some ⟨g, 0, none⟩) n c, .int .i64 i, .slice (some ⟨B, 0, none⟩) 1 1] w (InsM (.slice (some ⟨g, 0, none⟩) n c) base ps i q w) := by
  obtain ⟨W, hW⟩ : ∃ W, W = w := ⟨_, rfl⟩
  have hbW : Below w.heap.size w W := by rw [hW]; exact Below.refl _ _
  have hblk : W.heap[B]? = some (.cells #[.string (bs q.1), .int .i64 q.2.1, .int .i64 q.2.2.1, .string (bs (Mlo q)), .string (bs (Mhi q))] 28 (0, 0)) := by rw [hW]; exact hB
  have HW := hide hW
  rw [← hW]
  clear hW
  have hoW := hown.carry hbW
  obtain ⟨cur, -, hbg, hg, hnc, hcm, hsz, htake⟩ := OwM.block hoW
  have hgW : g < W.heap.size := (Array.getElem?_eq_some_iff.1 hg).1
  have hvW : B < W.heap.size := (Array.getElem?_eq_some_iff.1 hblk).1
  unfold maxLen at hcm
  obtain ⟨i0, hi0, hz0, hz1, hz2⟩ := info_parts Try.infoMt
  have hpt : (ceM (ps.take i)).length = i * 5 := by rw [ceM_len, List.length_take]; omega
  have hpd : (ceM (ps.drop i)).length = (n - i) * 5 := by rw [ceM_len, List.length_drop, ← hn]
  have hold : (Builtin.firstCells i0.size i (.slice (some ⟨g, 0, none⟩) i c)).run Try.prog W.drew = .ok (ceM (ps.take i)).toArray W.drew := by
    rw [hz1]
    exact run_firstCells_some W.drew 5 i ⟨g, 0, none⟩ i c (ceM (ps.take i)) hpt (fun j v hj => by
      have h1 : (ceM ps)[j]? = some v := by
        rw [← ceM_take ps i (by omega), List.getElem?_take] at hj
        split at hj
        · exact hj
        · cases hj
      exact World.ownsRow.cells hoW (g := g) rfl _ _ h1)
  have hrz := fun ty => Lib.run_append_grow_zeros (P := Try.prog) W 26 3 ty 28 i0 _ .i64 .i64 Try.underlying26 Try.underlying3 hi0 hz0 (some ⟨g, 0, none⟩) i c (ceM (ps.take i)) hold (n + 1 - i) (by omega) (by omega) (by omega) (by omega) (by rw [hz2]; omega) (by rw [hz2]; exact growslice_fits (by omega) (by omega))
  rw [show i + (n + 1 - i) = n + 1 by omega] at hrz
  obtain ⟨G, hG⟩ : ∃ G, G = grownCap W (n + 1) c 28 := ⟨_, rfl⟩
  have hGn : n + 1 ≤ G := by rw [hG]; exact grownCap_ge W _ _ _
  have hGm : G ≤ maxLen := by rw [hG]; exact grownCap_le_maxLen W _ _ _ (by unfold maxLen; omega)
  rw [← hG] at hrz
  obtain ⟨ROW, hROW⟩ : ∃ ROW : Array Value, ROW = (ceM (ps.take i)).toArray ++ Builtin.zeroCells (Value.cells (.agg #[.string ByteArray.empty, .int .i64 0, .int .i64 0, .string ByteArray.empty, .string ByteArray.empty])) (n + 1 - i) ++ Builtin.zeroCells (Value.cells (.agg #[.string ByteArray.empty, .int .i64 0, .int .i64 0, .string ByteArray.empty, .string ByteArray.empty])) (G - (n + 1)) := ⟨_, rfl⟩
  rw [← hROW] at hrz
  have hRs : ROW.size = G * 5 := by
    have e0 : Value.cells (.agg #[.string ByteArray.empty, .int .i64 0, .int .i64 0, .string ByteArray.empty, .string ByteArray.empty]) = #[.string ByteArray.empty, .int .i64 0, .int .i64 0, .string ByteArray.empty, .string ByteArray.empty] := rfl
    rw [hROW, e0]
    simp only [Array.size_append, List.size_toArray, hpt, Builtin.zeroCells, Array.size_map, Array.size_range, List.length_map, List.length_range, List.length_cons, List.length_nil]
    omega
  have hRt : ROW.toList.take (i * 5) = ceM (ps.take i) := by
    rw [hROW, Array.append_assoc, Array.toList_append, List.take_append_of_le_length (by rw [hpt]; exact Nat.le_refl _), List.take_of_length_le (by rw [hpt]; exact Nat.le_refl _)]
  have hRl : ROW.toList.length = G * 5 := by simpa using hRs
  obtain ⟨W1, hW1⟩ : ∃ W1, W1 = W.drew.alloc (.cells ROW 28) := ⟨_, rfl⟩
  rw [← hW1] at hrz
  have hg1 : W1.heap[W.heap.size]? = some (.cells ROW 28 (0, 0)) := by rw [hW1]; exact heap_alloc_new W.drew _
  have hb1 : Below W.heap.size W W1 := by rw [hW1]; exact (Below.refl W.heap.size W).drew.alloc (Nat.le_refl _) _
  have hblk1 : W1.heap[B]? = some (.cells #[.string (bs q.1), .int .i64 q.2.1, .int .i64 q.2.2.1, .string (bs (Mlo q)), .string (bs (Mhi q))] 28 (0, 0)) := (hb1.block _ hvW).trans hblk
  have hcp2 := fun ty => run_copyM W1 ty W.heap.size (i * 5) (n + 1 - i) (G - i) ⟨B, 0, none⟩ 1 1 ROW (ecM q) hg1 (by
    have : Nat.min 1 (n + 1 - i) = 1 := by show min _ _ = 1; omega
    rw [this]; rfl) (by
    intro j v hj
    have := World.news_of_block (w := W1) hblk1 j v (by simpa [ecM] using hj)
    simpa using this) (by simp [ecM_len]; omega) (ecM_one q)
  obtain ⟨R1, hR1⟩ : ∃ R1, R1 = ROW.toList.take (i * 5) ++ (ecM q) ++ ROW.toList.drop (i * 5 + (ecM q).length) := ⟨_, rfl⟩
  rw [← hR1] at hcp2
  have hR1l : R1.length = G * 5 := by rw [hR1, lenV_two ROW.toList _ _ (by rw [hRl]; simp [ecM_len]; omega), hRl]
  obtain ⟨W2, hW2⟩ : ∃ W2, W2 = W1.setRow W.heap.size R1.toArray := ⟨_, rfl⟩
  have hg2 : W2.heap[W.heap.size]? = some (.cells R1.toArray 28 (0, 0)) := by rw [hW2]; exact setRow_heap W1 _ ROW _ 28 _ hg1
  have hgg2 : W2.heap[g]? = some (.cells cur 28 (0, 0)) := by rw [hW2]; exact (setRow_other W1 _ g _ (by omega)).trans ((hb1.block g hgW).trans hg)
  rw [← hW2] at hcp2
  have hsrc1 : ∀ j v, (ceM (ps.drop i))[j]? = some v → W2.drew.cell? ((⟨g, i * 5, none⟩ : Addr).add j) = some v := by
    intro j v hj
    have h1 : (ceM ps)[i * 5 + j]? = some v := by rw [← hj, ← ceM_drop ps i (by omega), List.getElem?_drop]
    rw [Addr.add_lit]
    show W2.cell? _ = _
    rw [cell_of_row W2 g _ _ _ (0, 0) hgg2]
    rw [← htake, List.getElem?_take] at h1
    split at h1
    · simpa using h1
    · cases h1
  have hone : ∀ v ∈ ceM (ps.drop i), v.oneCell' = true := ceM_one _
  have hcp1 := fun ty => run_copyM W2.drew ty W.heap.size ((i + 1) * 5) (n - i) (G - (i + 1)) ⟨g, i * 5, none⟩ (n - i) (c - i) R1.toArray (ceM (ps.drop i)) hg2 (by rw [hpd]; congr 1; show _ = min _ _; omega) hsrc1 (by rw [hpd]; simp [ecM_len]; omega) hone
  rw [show (R1.toArray.toList) = R1 by simp] at hcp1
  obtain ⟨R2, hR2⟩ : ∃ R2, R2 = R1.take ((i + 1) * 5) ++ ceM (ps.drop i) ++ R1.drop ((i + 1) * 5 + (ceM (ps.drop i)).length) := ⟨_, rfl⟩
  rw [← hR2] at hcp1
  have hW3 : W2.drew.setRow W.heap.size R2.toArray = W1.drew.setRow W.heap.size R2.toArray := by
    have : W2.drew = W1.drew.setRow W.heap.size R1.toArray := by rw [hW2]; rfl
    rw [this, setRow_setRow]
  rw [hW3] at hcp1
  have HLA := hide (show OwM W1.drew base (.slice (some ⟨W.heap.size, 0, none⟩) 0 G) [] from ⟨rfl, .inr ⟨W.heap.size, G, ROW, rfl, Nat.le_trans hb hbW.size, hg1, Nat.zero_le _, hGm, hRs, by simp [ceM]⟩⟩)
  have HL2 := hide (OwM.laid HLA.out (m := n + 1) (qs := insV ps i q) R2 (by rw [hR2, lenV_two R1 _ _ (by rw [hpd]; omega), hR1l]) (by rw [insV_lenI _ _ _ (by omega)]; omega) hGn (by
    rw [insV_cells, hR2, hR1]
    have e := layV_two ROW.toList (ceM (ps.take i)) (ecM q) (ceM (ps.drop i)) (i * 5) hRt hpt (by rw [hpd, hRl]; simp [ecM_len]; omega)
    have e3 : i * 5 + (ecM q).length = (i + 1) * 5 := by simp [ecM_len]; omega
    rw [e3, hpd] at e
    rw [e3, hpd, show (n + 1) * 5 = (i + 1) * 5 + (n - i) * 5 by omega]
    exact e))
  have HBB := hide (show Below base w (W1.drew.setRow W.heap.size R2.toArray) from (((hbW.mono hb).trans (hb1.mono (Nat.le_trans hb hbW.size))).drew).grown HL2.out.2 (Nat.le_trans (Nat.le_trans hb hbW.size) hb1.size) (by intro k hk; cases hk; exact Nat.le_trans hb hbW.size))
  have HKB := hide (show OnlyM (.slice (some ⟨g, 0, none⟩) n c) w (W1.drew.setRow W.heap.size R2.toArray) from fun k hk _ => by
    rw [setRow_other W1.drew _ k _ (by have := hbW.size; omega)]
    exact (hb1.block k (Nat.lt_of_lt_of_le hk hbW.size)).trans (hbW.block k hk))
  obtain ⟨W9, hW9⟩ : ∃ W9, W9 = W1.drew.setRow W.heap.size R2.toArray := ⟨_, rfl⟩
  rw [← hW9] at hcp1 HL2 HBB HKB
  unfold maxLen at hGm
  clear hW9 hW2 hW3 hR2 hR1 hW1 hg1 hg2 hgg2 hblk1 hR1l hone hsrc1 hpd hpt hsz htake hg hblk hoW HLA hown hn hRt hRl hRs hROW hG hold hi0 hz0 hz1 hz2 hb1
  have hw1 : IntKind.i64.wrap ((i : Int) + 1) = (i : Int) + 1 := by rw [IntKind.wrap_i64]; omega
  have hb2 : ¬ (G = i + 1) := by omega
  have hb4 : ¬ (c = i) := by omega
  have hb6 : ¬ (G = i) := by omega
  have hz2' : ¬ ((i : Int) = (n : Int)) := by omega
  have hroom' : (c : Int) < (n : Int) + 1 := by omega
  have hin' : (i : Int) ≤ n := by omega
  have hin2 : i ≤ n := by omega
  have hb5 : (0 : Int) ≤ (i : Int) + 1 := by omega
  have hb7 : (i : Int) ≤ (n : Int) + 1 := by omega
  have hkk : (n : Int) + 1 - (i : Int) = ((n + 1 - i : Nat) : Int) := by omega
  go_enter Try.func50, Try.ntmps50
  go_wp2_with (first
    | (at_builtin; refine wpList_runapzV rfl (.tmp 34) (.tmp 39) 26 3 rfl rfl rfl (hrz _) ?_)
    | (at_builtin; refine wpList_runcpyV rfl (.tmp 43) (.tmp 44) 26 rfl rfl rfl (hcp2 _) ?_))
  refine reg_begin (S := fun _ => True) keeps_true (by kernel_rfl) trivial ?_
  intro hS
  refine reg_plan [0, 1, 2, 3, 4, 5, 6, 7] (fuel := 1) (a' := ?qa1) (by kernel_rfl) (by kernel_rfl) (by kernel_rfl) ?qp1 hS ?qn1
  case qp1 =>
    iterate 8 (apply Yl.cons rfl rfl; focus (rintro wx _; go_simp; all_goals (with_reducible rfl)); try simp only [Act.put, List.setIfInBounds_toArray, List.set_cons_zero, List.set_cons_succ])
    exact Yl.nil
  try simp only [Act.put, List.setIfInBounds_toArray, List.set_cons_zero, List.set_cons_succ]
  refine reg_run (i := 8) (v := goInt (Nat.min (n - i) (n - i))) (w' := W9) rfl (by kernel_rfl) (by rfl) (run_cpyV (v := .slice (some ⟨W.heap.size, (i + 1) * 5, none⟩) (n - i) (G - (i + 1))) (s := .tmp 50) (x := .tmp 53) (t := 26) (y := .slice (some ⟨g, i * 5, none⟩) (n - i) (c - i)) rfl (by kernel_rfl) (by kernel_rfl) (hcp1 _)) trivial ?_
  try simp only [Act.put, List.setIfInBounds_toArray, List.set_cons_zero, List.set_cons_succ]
  refine wpAnyH_done (by kernel_rfl) ?_ _
  refine NoPanic.normal ?_
  go_wp2
  go_ret
  exact ⟨_, rfl, HL2.out.1, by rw [HW.out]; exact HBB.out, by rw [HW.out]; exact HKB.out⟩

theorem insert_anyV (base : Nat) (a : Option Addr) (n c i : Nat) (ps : List Mta) (q : Mta) (B : Nat) (w : World) (hB : w.heap[B]? = some (.cells #[.string (bs q.1), .int .i64 q.2.1, .int .i64 q.2.2.1, .string (bs (Mlo q)), .string (bs (Mhi q))] 28 (0, 0))) (hown : OwM w base (.slice a n c) ps) (hne : (Value.slice a n c).ownBlock ≠ some B) (hn : n = ps.length) (hl : n ≤ 1000) (hb : base ≤ w.heap.size) (hi : i ≤ n) :
    Calls Try.prog 50 #[.slice a n c, .int .i64 i, .slice (some ⟨B, 0, none⟩) 1 1] w (InsM (.slice a n c) base ps i q w) := by
  by_cases h : i = n
  · subst h; exact insert_endV base a i c ps q B w hB hown hn hl hb
  · obtain ⟨g, rfl⟩ : ∃ g, a = some ⟨g, 0, none⟩ := by
      rcases hown.2 with ⟨e, h0⟩ | ⟨g, cap, cur, e, _⟩
      · cases e; omega
      · cases e; exact ⟨g, rfl⟩
    by_cases hr : n + 1 ≤ c
    · exact insert_shiftV base g n c i ps q B w hB hown (fun e => hne (by rw [e]; rfl)) hn hl hb (by omega) hr
    · exact insert_growV base g n c i ps q B w hB hown (fun e => hne (by rw [e]; rfl)) hn hl hb (by omega) (by omega)

end Go.Proofs.Ythhlckdglifmeaa
