/-
  What dev's Crash does.
-/
import Derived.Test.YtlibnefibeikcaaDAll
namespace Go.Proofs.Ytlibnefibeikcaa
open Go.RowKit
set_option linter.unusedVariables false
set_option linter.unusedSimpArgs false

set_option maxHeartbeats 1000000 in
set_option maxRecDepth 100000 in
theorem clear_any {d : Dk} {v : Value}  (w : World) (hD : RdD w v d) :
    Calls Try.prog 18 #[v] w fun e w' => ∃ dv, e = .returned (.tuple #[dv, .int .i64 (clearD d).2]) ∧ OwD w' w.heap.size dv (clearD d).1 ∧ Below w.heap.size w w' := by
  obtain ⟨a1, c1, a2, c2, a3, c3, rfl, _, _, _⟩ := hD.form
  have HD := hide hD
  clear hD
  obtain ⟨w1, ew⟩ : ∃ w1, (w.alloc (.cells #[.slice a1 d.1.length c1, .slice a2 d.2.1.length c2, .slice a3 d.2.2.length c3] 26)).alloc (.cells #[.slice none 0 0, .slice none 0 0, .slice none 0 0] 26) = w1 := ⟨_, rfl⟩
  have hb1 : Below w.heap.size w w1 := by rw [← ew]; exact ((Below.refl _ _).alloc (Nat.le_refl _) _).alloc (by simp) _
  have k0 : w1.cell? ⟨w.heap.size, 0, none⟩ = some (.slice a1 d.1.length c1) := by rw [← ew]; simp
  have k1 : w1.cell? ⟨w.heap.size, 1, none⟩ = some (.slice a2 d.2.1.length c2) := by rw [← ew]; simp
  have k2 : w1.cell? ⟨w.heap.size, 2, none⟩ = some (.slice a3 d.2.2.length c3) := by rw [← ew]; simp
  have hr1 : w1.heap[w.heap.size + 1]? = some (.cells #[.slice none 0 0, .slice none 0 0, .slice none 0 0] 26 (0, 0)) := by rw [← ew]; exact heap_alloc2 _ _ _
  have hs1 : w.heap.size + 2 ≤ w1.heap.size := by rw [← ew]; simp
  go_enter Try.func18, Try.ntmps18
  go_wp2_with fail
  refine (check_any (d := d) _ (HD.out.carry hb1)).mono ?_
  rintro e w2 ⟨rfl, hb2⟩
  have hB2 : Below w.heap.size w w2 := hb1.trans (hb2.mono hb1.size)
  have k0' := keeps_cell _ _ _ _ k0 hb2
  have k1' := keeps_cell _ _ _ _ k1 hb2
  have k2' := keeps_cell _ _ _ _ k2 hb2
  have hr2 := keeps_block _ _ _ _ hr1 hb2
  have hs2 := Nat.le_trans hs1 hb2.size
  clear ew k0 k1 k2 hr1 hb1 hb2 hs1
  rcases chk_cases d with ⟨hok, hck⟩ | ⟨hok, hck⟩
  · rw [hck]
    obtain ⟨hfine, hc1, hc2⟩ := Fine.of_ok hok
    have HE := hide (show clearD d = ((d.1, d.2.1, []), 0) by unfold clearD; rw [if_neg (by rw [hck]; decide)])
    obtain ⟨_, _, _, eD, h1, h2, _⟩ := HD.out
    cases eD
    have H1 := hide h1
    have H2 := hide h2
    have B1 := hide (show d.1.length ≤ 1000000000 by have := hfine.1; omega)
    have B2 := hide (show d.2.1.length ≤ 1000000 by have := hfine.2.1; omega)
    have D2 := hide (show ∀ p ∈ d.2.1, p.2.length ≤ 1000000000 from fun p hp => by have := putE_ok (hfine.2.2.2 p hp); omega)
    clear h1 h2 hfine hck hok
    go_wp2
    have hK : Keeps (fun wx => wx.cell? ⟨w.heap.size, 0, none⟩ = some (.slice a1 d.1.length c1) ∧ wx.cell? ⟨w.heap.size, 1, none⟩ = some (.slice a2 d.2.1.length c2) ∧ wx.cell? ⟨w.heap.size, 2, none⟩ = some (.slice a3 d.2.2.length c3) ∧ (∃ y1 y2 y3, wx.heap[w.heap.size + 1]? = some (.cells #[y1, y2, y3] 26 (0, 0))) ∧ Below w.heap.size w wx ∧ w.heap.size + 2 ≤ wx.heap.size) := (keeps_cell _ _).and ((keeps_cell _ _).and ((keeps_cell _ _).and ((keeps_block3 _ _).and ((keeps_below w).and (keeps_size _)))))
    refine reg_begin hK (by kernel_rfl) ⟨k0', k1', k2', ⟨_, _, _, hr2⟩, hB2, hs2⟩ ?_
    intro hS
    refine reg_take (i := 0) (v := ?qav0) rfl (by kernel_rfl) (by kernel_rfl) (by kernel_rfl) (by rfl) ?qay0 hS ?qar0
    case qay0 => (rintro wx ⟨x1, x2, x2', x3, x4, x5⟩; go_simp; all_goals (with_reducible rfl))
    try simp only [Act.put, List.setIfInBounds_toArray, List.set_cons_zero, List.set_cons_succ]
    refine reg_take (i := 1) (v := ?qav1) rfl (by kernel_rfl) (by kernel_rfl) (by kernel_rfl) (by rfl) ?qay1 hS ?qar1
    case qay1 => (rintro wx ⟨x1, x2, x2', x3, x4, x5⟩; go_simp; all_goals (with_reducible rfl))
    try simp only [Act.put, List.setIfInBounds_toArray, List.set_cons_zero, List.set_cons_succ]
    refine reg_take (i := 3) (v := ?qav3) rfl (by kernel_rfl) (by kernel_rfl) (by kernel_rfl) (by rfl) ?qay3 hS ?qar3
    case qay3 => (rintro wx ⟨x1, x2, x2', x3, x4, x5⟩; go_simp; all_goals (with_reducible rfl))
    try simp only [Act.put, List.setIfInBounds_toArray, List.set_cons_zero, List.set_cons_succ]
    refine reg_take (i := 4) (v := ?qav4) rfl (by kernel_rfl) (by kernel_rfl) (by kernel_rfl) (by rfl) ?qay4 hS ?qar4
    case qay4 => (rintro wx ⟨x1, x2, x2', x3, x4, x5⟩; go_simp; all_goals (with_reducible rfl))
    try simp only [Act.put, List.setIfInBounds_toArray, List.set_cons_zero, List.set_cons_succ]
    refine reg_call hK (i := 2) (R := fun v wy => OwB wy (w.heap.size + 2) v d.1) rfl (by kernel_rfl) (by rfl) (by go_simp) hS ((clone_any a1 c1 _ d.1 _ rfl B1.out (H1.out.carry hS.2.2.2.2.1)).mono fun e w1 ⟨v, h1, h2, h3⟩ => ⟨v, h1, h2.mono hS.2.2.2.2.2, h3⟩) (fun v _ _ h hb => h.carry hb) ?_
    intro v13 w13 hKn hRn hSn
    clear hK hS
    have hK := hKn
    have hS := hSn
    clear hKn hSn
    obtain ⟨p5, k5, rfl⟩ := hRn.form
    try simp only [Act.put, List.setIfInBounds_toArray, List.set_cons_zero, List.set_cons_succ]
    refine reg_call hK (i := 5) (R := fun v wy => OwW wy (w.heap.size + 2) v d.2.1) rfl (by kernel_rfl) (by rfl) (by go_simp) hS ((copyPuts_any a2 _ c2 d.2.1 _ rfl B2.out D2.out (H2.out.carry hS.1.2.2.2.2.1)).mono fun e w1 ⟨v, h1, h2, h3⟩ => ⟨v, h1, h2.mono hS.1.2.2.2.2.2, h3⟩) (fun v _ _ h hb => h.carry hb) ?_
    intro v16 w16 hKn hRn hSn
    clear hK hS
    have hK := hKn
    have hS := hSn
    clear hKn hSn
    obtain ⟨p8, k8, rfl⟩ := hRn.rd.form
    try simp only [Act.put, List.setIfInBounds_toArray, List.set_cons_zero, List.set_cons_succ]
    refine reg_take (i := 6) (v := ?qav6) rfl (by kernel_rfl) (by kernel_rfl) (by kernel_rfl) (by rfl) ?qay6 hS ?qar6
    case qay6 => (rintro wx ⟨⟨⟨x1, x2, x2', x3, x4, x5⟩, _⟩, _⟩; go_simp; all_goals (with_reducible rfl))
    try simp only [Act.put, List.setIfInBounds_toArray, List.set_cons_zero, List.set_cons_succ]
    obtain ⟨⟨⟨x1, x2, x2', ⟨y1, y2, y3, x3⟩, x4, x5⟩, r1⟩, r2⟩ := hS
    obtain ⟨ws, ews, hws, hgs⟩ := stored3 (.slice p5 d.1.length k5) (.slice p8 d.2.1.length k8) (.slice none 0 0) x3
    obtain ⟨z1, z2, z3, z4⟩ := cells3 x3
    have hSn : ((fun wx => wx.cell? ⟨w.heap.size, 0, none⟩ = some (.slice a1 d.1.length c1) ∧ wx.cell? ⟨w.heap.size, 1, none⟩ = some (.slice a2 d.2.1.length c2) ∧ wx.cell? ⟨w.heap.size, 2, none⟩ = some (.slice a3 d.2.2.length c3) ∧ (∃ y1 y2 y3, wx.heap[w.heap.size + 1]? = some (.cells #[y1, y2, y3] 26 (0, 0))) ∧ Below w.heap.size w wx ∧ w.heap.size + 2 ≤ wx.heap.size) ws ∧ OwB ws (w.heap.size + 2) (.slice p5 d.1.length k5) d.1) ∧ OwW ws (w.heap.size + 2) (.slice p8 d.2.1.length k8) d.2.1 := ⟨⟨⟨hgs.cell x1 (by simp), hgs.cell x2 (by simp), hgs.cell x2' (by simp), ⟨_, _, _, hws⟩, x4.grown hgs x4.size (fun k hk => by cases hk; simp), Nat.le_trans x5 hgs.size⟩, r1.grown hgs (by simp)⟩, r2.grown hgs (by simp)⟩
    refine reg_unit (i := 7) (w' := ws) rfl (by kernel_rfl) (by rfl) (by rw [← ews]; go_simp) hSn ?_
    have hS := hSn
    clear hSn
    try simp only [Act.put, List.setIfInBounds_toArray, List.set_cons_zero, List.set_cons_succ]
    refine reg_take (i := 8) (v := ?qav8) rfl (by kernel_rfl) (by kernel_rfl) (by kernel_rfl) (by rfl) ?qay8 hS ?qar8
    case qay8 => (rintro wx ⟨⟨⟨x1, x2, x2', x3, x4, x5⟩, _⟩, _⟩; go_simp; all_goals (with_reducible rfl))
    try simp only [Act.put, List.setIfInBounds_toArray, List.set_cons_zero, List.set_cons_succ]
    refine wpAnyH_done (by kernel_rfl) ?_ _
    refine NoPanic.normal ?_
    have o1 := r1.grown hgs (by simp)
    have o2 := r2.grown hgs (by simp)
    have hb : Below w.heap.size w ws := x4.grown hgs x4.size (fun k hk => by cases hk; simp)
    obtain ⟨q1, q2, q3, _⟩ := cells3 hws
    have HO : Hid (OwD ws w.heap.size (.agg #[.slice p5 d.1.length k5, .slice p8 d.2.1.length k8, .slice none 0 0]) (d.1, d.2.1, [])) := ⟨_, _, _, rfl, o1.mono (by omega), o2.mono (by omega), ⟨[], rfl, World.ownsRow_nil _ _ _ _, by simp⟩⟩
    clear ews hS o1 o2 hK hgs hws r1 r2
    go_wp2
    refine bodyPost_ret (v := .tuple #[.agg #[.slice p5 d.1.length k5, .slice p8 d.2.1.length k8, .slice none 0 0], .int .i64 0]) ?_ rfl ?_
    · simp [results, Try.results18, go_sem, *]
    · rw [HE.out]; exact ⟨_, rfl, HO.out, hb⟩
  · rw [hck]
    have HE := hide (show clearD d = (dz, 20) by unfold clearD; rw [if_pos (by rw [hck]; decide), hck])
    clear hck hok
    obtain ⟨ws, ews, hws, hgs⟩ := stored3 (.slice none 0 0) (.slice none 0 0) (.slice none 0 0) hr2
    obtain ⟨z1, z2, z3, z4⟩ := cells3 hr2
    obtain ⟨q1, q2, q3, q4⟩ := cells3 hws
    have hbs := hB2.grown hgs hB2.size (fun k hk => by cases hk; simp)
    clear hws hgs
    go_wp2
    refine bodyPost_ret (v := .tuple #[.agg #[.slice none 0 0, .slice none 0 0, .slice none 0 0], .int .i64 20]) ?_ rfl ?_
    · simp [results, Try.results18, go_sem, *]
    · rw [HE.out]; exact ⟨_, rfl, OwD_zero _ _, hbs⟩

end Go.Proofs.Ytlibnefibeikcaa
namespace Go.Proofs.Ytlibnefibeikcaa
open Go.RowKit
set_option linter.unusedVariables false
set_option linter.unusedSimpArgs false

theorem ret_boolD {a b : Bool} (h : a = b) : Ending.returned (.bool a) = .returned (.bool b) := by rw [h]
theorem bs_beq (l m : List UInt8) : ((bs l).toList == (bs m).toList) = decide (l = m) := by
  have e : ∀ x : List UInt8, (bs x).toList = x := fun x => by rw [ByteArray.toList_eq]; simp [bs]
  rw [e, e]
  by_cases h : l = m <;> simp [h]

theorem equal_any (a b : Value) (l m : List UInt8) (w : World) (h : Rd w a l) (k : Rd w b m) :
    Calls Try.prog 65 #[a, b] w fun e w' => e = .returned (.bool (decide (l = m))) ∧ w' = w := by
  have h1 := conv_rd (P := Try.prog) 22 5 9 Try.underlying22 Try.underlying5 Try.underlying9 h
  have h2 := conv_rd (P := Try.prog) 22 5 9 Try.underlying22 Try.underlying5 Try.underlying9 k
  clear h k
  go_enter Try.func65, Try.ntmps65
  go_wp2
  go_ret
  exact ⟨ret_boolD (bs_beq l m), rfl⟩

end Go.Proofs.Ytlibnefibeikcaa
namespace Go.Proofs.Ytlibnefibeikcaa
open Go.RowKit
set_option linter.unusedVariables false
set_option linter.unusedSimpArgs false

def manyD (d : Dk) : Int × Int := if chk d ≠ 0 then (0, chk d) else (mny d, 0)

theorem rd_sub {w : World} {a : Option Addr} {n c : Nat} {l : List UInt8} (h : Rd w (.slice a n c) l) (lo hi : Nat) (h1 : lo < hi) (h2 : hi ≤ l.length) : ∃ b off, a = some ⟨b, off, none⟩ ∧ n = l.length ∧ n ≤ c ∧ Rd w (.slice (some ⟨b, off + lo, none⟩) (hi - lo) (c - lo)) ((l.drop lo).take (hi - lo)) := by
  rcases h with ⟨rfl, _⟩ | ⟨b, off, c', e, e1, e2, hc⟩
  · simp at h2; omega
  · cases e
    refine ⟨b, off, rfl, rfl, e1, ?_⟩
    have hl : ((l.drop lo).take (hi - lo)).length = hi - lo := by rw [List.length_take, List.length_drop]; omega
    refine .inr ⟨b, off + lo, c - lo, by rw [hl], by rw [hl]; omega, by omega, fun j hj => ?_⟩
    rw [hl] at hj
    have := hc (lo + j) (by omega)
    rw [Nat.add_assoc]
    rw [this]
    simp

theorem wrapk (k : Nat) (h : k ≤ 1000000) : wrap64 ((k : Int) * 128) = ((k * 128 : Nat) : Int) ∧ wrap64 (((k : Int) + 1) * 128) = (((k + 1) * 128 : Nat) : Int) ∧ wrap64 ((k : Int) + 1) = (k : Int) + 1 := by
  unfold wrap64
  refine ⟨by omega, by omega, by omega⟩

set_option maxHeartbeats 1000000 in
set_option maxRecDepth 100000 in
theorem many_any {d : Dk} {v : Value} (w : World) (hD : RdD w v d) :
    Calls Try.prog 27 #[v] w fun e w' => e = .returned (.tuple #[.int .i64 (manyD d).1, .int .i64 (manyD d).2]) ∧ Below w.heap.size w w' := by
  obtain ⟨a1, c1, a2, c2, a3, c3, rfl, h1, h2, _⟩ := hD.form
  have hn1 : d.1.length ≤ maxLen := h1.len_le
  have HD := hide hD
  clear hD h1 h2
  generalize e1 : d.1.length = n1 at *
  generalize e2 : d.2.1.length = n2 at *
  generalize e3 : d.2.2.length = n3 at *
  have E1 := hide e1
  clear e1 e2 e3
  obtain ⟨q, eq⟩ : ∃ q, q = n1 / 128 := ⟨_, rfl⟩
  have HM := hide (show mny d = q by rw [mny, E1.out, eq])
  have HC := hide (fun wx => eq ▸ count_any a1 a2 a3 n1 c1 n2 c2 n3 c3 hn1 wx : ∀ wx, Calls Try.prog 45 #[.agg #[.slice a1 n1 c1, .slice a2 n2 c2, .slice a3 n3 c3]] wx fun e w' => e = .returned (.int .i64 q) ∧ Below wx.heap.size wx w')
  clear eq
  obtain ⟨w1, ew⟩ : ∃ w1, w.alloc (.cells #[.slice a1 n1 c1, .slice a2 n2 c2, .slice a3 n3 c3] 26) = w1 := ⟨_, rfl⟩
  have hb1 : Below w.heap.size w w1 := by rw [← ew]; exact (Below.refl _ _).alloc (Nat.le_refl _) _
  have k0 : w1.cell? ⟨w.heap.size, 0, none⟩ = some (.slice a1 n1 c1) := by rw [← ew]; simp
  have k1 : w1.cell? ⟨w.heap.size, 1, none⟩ = some (.slice a2 n2 c2) := by rw [← ew]; simp
  have k2 : w1.cell? ⟨w.heap.size, 2, none⟩ = some (.slice a3 n3 c3) := by rw [← ew]; simp
  go_enter Try.func27, Try.ntmps27
  go_wp2_with fail
  refine (check_any (d := d) _ (HD.out.carry hb1)).mono ?_
  rintro e w2 ⟨rfl, hb2⟩
  have hB2 : Below w.heap.size w w2 := hb1.trans (hb2.mono hb1.size)
  have k0' := keeps_cell _ _ _ _ k0 hb2
  have k1' := keeps_cell _ _ _ _ k1 hb2
  have k2' := keeps_cell _ _ _ _ k2 hb2
  clear ew k0 k1 k2 hb1 hb2
  rcases chk_cases d with ⟨hok, hck⟩ | ⟨hok, hck⟩
  · rw [hck]
    have HE := hide (show manyD d = ((q : Int), 0) by unfold manyD; rw [if_neg (by rw [hck]; decide), HM.out])
    clear hck hok
    go_wp2_with fail
    refine (HC.out _).mono ?_
    rintro e w3 ⟨rfl, hb3⟩
    have hB3 : Below w.heap.size w w3 := hB2.trans (hb3.mono hB2.size)
    go_wp2
    go_ret2
    rw [HE.out]
    exact ⟨rfl, hB3⟩
  · rw [hck]
    have HE := hide (show manyD d = (0, 20) by unfold manyD; rw [if_pos (by rw [hck]; decide), hck])
    clear hck hok
    go_wp2
    go_ret2
    rw [HE.out]
    exact ⟨rfl, hB2⟩

end Go.Proofs.Ytlibnefibeikcaa
namespace Go.Proofs.Ytlibnefibeikcaa
open Go.RowKit
set_option linter.unusedVariables false
set_option linter.unusedSimpArgs false

/-- A slice of bools that reads as K. -/
def RdK (w : World) (v : Value) (K : List Bool) : Prop :=
  (K = [] ∧ (v = .slice none 0 0 ∨ ∃ a c, v = .slice (some a) 0 c)) ∨
  ∃ b off c, v = .slice (some ⟨b, off, none⟩) K.length c ∧ K.length ≤ c ∧ c ≤ maxLen ∧ ∀ j, (h : j < K.length) → w.cell? ⟨b, off + j, none⟩ = some (.bool K[j])
theorem RdK.carry {w w' : World} {v : Value} {K : List Bool} (h : RdK w v K) (hb : Below w.heap.size w w') : RdK w' v K := by
  rcases h with h | ⟨b, off, c, rfl, hc, hm, hcell⟩
  · exact .inl h
  · exact .inr ⟨b, off, c, rfl, hc, hm, fun j hj => keeps_cell _ _ _ _ (hcell j hj) hb⟩
theorem RdK.at {w : World} {a : Option Addr} {n c : Nat} {K : List Bool} (h : RdK w (.slice a n c) K) (j : Nat) (hj : j < K.length) : ∃ b off, a = some ⟨b, off, none⟩ ∧ w.cell? ⟨b, off + j, none⟩ = some (.bool K[j]) := by
  rcases h with ⟨rfl, _⟩ | ⟨b, off, c', e, _, _, hc⟩
  · exact absurd hj (by simp)
  · cases e; exact ⟨b, off, rfl, hc j hj⟩
theorem RdK.form {w : World} {v : Value} {K : List Bool} (h : RdK w v K) : ∃ a c, v = .slice a K.length c := by
  rcases h with ⟨rfl, rfl | ⟨a, c, rfl⟩⟩ | ⟨b, off, c, rfl, _⟩ <;> exact ⟨_, _, rfl⟩
theorem RdK.len_le {w : World} {v : Value} {K : List Bool} (h : RdK w v K) : K.length ≤ maxLen := by
  rcases h with ⟨rfl, _⟩ | ⟨b, off, c, rfl, h1, h2, _⟩
  · simp [maxLen]
  · omega

/-- An append whose run is told. -/
theorem wpList_runapp {P : Program} (w : World) {ops : Array Oper} {rest : List Oper} {o : Oper} {a : Act} {Q : Exit → Act → World → Prop} (hgd : o.guard = none) (s x : Operand) (t : TypeId) (ho : o.op = .call { callee := .builtin .append, args := #[s, x], argTypes := #[t, t] })
    {v y v' : Value} {w' : World} (hs : a.eval s = v) (hx : a.eval x = y) (hrun : (Builtin.append_ #[t, t] o.type #[v, y]).run P w = .ok v' w') (h : wpList P ops Q rest (a.put o.dst v') w') : wpList P ops Q (o :: rest) a w := by
  refine wpList_plain hgd fun K' hK' => ?_
  unfold Oper.wp
  rw [run_app ho hs hx hrun]
  exact hK' _ _ h

end Go.Proofs.Ytlibnefibeikcaa
