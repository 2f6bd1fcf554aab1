/-
  What the document's twinPut and TwinActs do: new memory that reads as what was handed in.
-/
import Derived.Test.YtlibnefibeikcaaRChk
namespace Go.Proofs.Ytlibnefibeikcaa
open Go.RowKit
set_option linter.unusedVariables false
set_option linter.unusedSimpArgs false

/-- Bytes that are read are appended to bytes of one's own: the run. -/
theorem run_append_rd (w : World) (base : Nat) (hb : base ≤ w.heap.size) (v : Value) (l : List UInt8) (hown : OwB w base v l) (x : Value) (l2 : List UInt8) (hrd : Rd w x l2) (hlen : l.length + l2.length ≤ 140737488355328) :
    ∃ v' w', (Builtin.append_ #[22, 22] 22 #[v, x]).run Try.prog w = .ok v' w' ∧ OwB w' base v' (l ++ l2) ∧ w.grownBy w' v.ownBlock := by
  obtain ⟨i0, hi, hz0, hz1, hz2⟩ := info_parts Try.infoB
  rcases hrd with ⟨rfl, rfl | ⟨ad, c, rfl⟩⟩ | ⟨b, off, c, rfl, hc, hm, hcell⟩
  · refine ⟨v, w, run_append_owned_none (P := Try.prog) w base 22 22 5 i0 1 Try.underlying22 hi v l.length (u8v l) hown, by simpa using hown, World.grownBy.refl _ _⟩
  · obtain ⟨v', w', h1, h2, h3, _⟩ := run_append_own (P := Try.prog) w base 22 22 5 i0 _ 1 1 Try.underlying22 hi hz0 hz1 hz2 rfl (by decide) v l.length (u8v l) hown ad 0 c [] rfl (by intro j u hj; simp at hj) (by intro u hu; simp at hu) (by have := hown.rd.len_le; omega) (by simp at hlen; omega) hb
    refine ⟨v', w', h1, ?_, h3⟩
    show World.ownsRow _ _ _ _ _ _ _
    simpa using h2
  · obtain ⟨v', w', h1, h2, h3, _⟩ := run_append_own (P := Try.prog) w base 22 22 5 i0 _ 1 1 Try.underlying22 hi hz0 hz1 hz2 rfl (by decide) v l.length (u8v l) hown ⟨b, off, none⟩ l2.length c (u8v l2) (by simp [u8v]) (by
      intro j u hj
      obtain ⟨hj', rfl⟩ := u8v_getElem? l2 j u hj
      rw [Addr.add_lit]
      exact hcell j hj') (u8v_oneCell l2) (by unfold maxLen; omega) (by omega) hb
    refine ⟨v', w', h1, ?_, h3⟩
    show World.ownsRow _ _ _ _ _ _ _
    rw [List.length_append, u8v_append]
    exact h2

set_option maxHeartbeats 400000 in
set_option maxRecDepth 100000 in
theorem twinPut_any (N : Int) (x : Option Addr) (m d : Nat) (l : List UInt8) (w : World) (hm : m = l.length) (hl : l.length ≤ 140737488355328) (hrd : Rd w (.slice x m d) l) :
    Calls Try.prog 12 #[.agg #[.int .i64 N, .slice x m d]] w fun e w' => ∃ v, e = .returned (.agg #[.int .i64 N, v]) ∧ OwB w' w.heap.size v l ∧ Below w.heap.size w w' := by
  have HC := hide hrd
  have HM := hide hm
  have HL := hide hl
  clear hrd hm hl
  obtain ⟨w2, ew⟩ : ∃ w2, (w.alloc (.cells #[.int .i64 N, .slice x m d] 49)).alloc (.cells #[.int .i64 0, .slice none 0 0] 49) = w2 := ⟨_, rfl⟩
  have hb2 : Below w.heap.size w w2 := by rw [← ew]; exact ((Below.refl _ _).alloc (Nat.le_refl _) _).alloc (by simp) _
  have hk0 : w2.cell? ⟨w.heap.size, 0, none⟩ = some (.int .i64 N) := by rw [← ew]; simp
  have hk1 : w2.cell? ⟨w.heap.size, 1, none⟩ = some (.slice x m d) := by rw [← ew]; simp
  have hk2 : w2.heap[w.heap.size + 1]? = some (.cells #[.int .i64 0, .slice none 0 0] 49 (0, 0)) := by rw [← ew]; exact heap_alloc2 _ _ _
  have hk3 : w.heap.size + 2 ≤ w2.heap.size := by rw [← ew]; simp
  go_enter Try.func12, Try.ntmps12
  go_wp2
  clear ew
  have hK : Keeps (fun wx => wx.cell? ⟨w.heap.size, 0, none⟩ = some (.int .i64 N) ∧ wx.cell? ⟨w.heap.size, 1, none⟩ = some (.slice x m d) ∧ (∃ y1 y2, wx.heap[w.heap.size + 1]? = some (.cells #[y1, y2] 49 (0, 0))) ∧ Below w.heap.size w wx ∧ w.heap.size + 2 ≤ wx.heap.size) := (keeps_cell _ _).and ((keeps_cell _ _).and ((keeps_block2 _ _).and ((keeps_below w).and (keeps_size _))))
  refine reg_begin hK (by kernel_rfl) ⟨hk0, hk1, ⟨_, _, hk2⟩, hb2, hk3⟩ ?_
  intro hS
  refine reg_take (i := 0) (v := ?qav0) rfl (by kernel_rfl) (by kernel_rfl) (by kernel_rfl) (by rfl) ?qay0 hS ?qar0
  case qay0 => (rintro wx ⟨x1, x2, x3, x4, x5⟩; go_simp; all_goals (with_reducible rfl))
  try simp only [Act.put, List.setIfInBounds_toArray, List.set_cons_zero, List.set_cons_succ]
  refine reg_take (i := 1) (v := ?qav1) rfl (by kernel_rfl) (by kernel_rfl) (by kernel_rfl) (by rfl) ?qay1 hS ?qar1
  case qay1 => (rintro wx ⟨x1, x2, x3, x4, x5⟩; go_simp; all_goals (with_reducible rfl))
  try simp only [Act.put, List.setIfInBounds_toArray, List.set_cons_zero, List.set_cons_succ]
  refine reg_take (i := 2) (v := ?qav2) rfl (by kernel_rfl) (by kernel_rfl) (by kernel_rfl) (by rfl) ?qay2 hS ?qar2
  case qay2 => (rintro wx ⟨x1, x2, x3, x4, x5⟩; go_simp; all_goals (with_reducible rfl))
  try simp only [Act.put, List.setIfInBounds_toArray, List.set_cons_zero, List.set_cons_succ]
  refine reg_take (i := 3) (v := ?qav3) rfl (by kernel_rfl) (by kernel_rfl) (by kernel_rfl) (by rfl) ?qay3 hS ?qar3
  case qay3 => (rintro wx ⟨x1, x2, x3, x4, x5⟩; go_simp; all_goals (with_reducible rfl))
  try simp only [Act.put, List.setIfInBounds_toArray, List.set_cons_zero, List.set_cons_succ]
  obtain ⟨va, wa, hrun, hOa, hga⟩ := run_append_rd w2.drew (w.heap.size + 2) (by simpa using hS.2.2.2.2) (.slice none 0 0) [] (World.ownsRow_nil _ _ _ _) (.slice x m d) l (HC.out.carry hS.2.2.2.1) (by simpa using HL.out)
  obtain ⟨p7, k7, rfl⟩ := hOa.form
  have hba : Below w2.drew.heap.size w2.drew wa := (Below.refl _ _).grown hga (Nat.le_refl _) (fun k hk => by cases hk)
  have hSa := hK _ _ hS hba
  refine reg_run (i := 4) (v := .slice p7 ([] ++ l).length k7) (w' := wa) rfl (by kernel_rfl) (by rfl) (run_app (v := .slice none 0 0) (y := .slice x m d) rfl rfl rfl hrun) hSa ?_
  clear hS hrun
  have hS := hSa
  try simp only [Act.put, List.setIfInBounds_toArray, List.set_cons_zero, List.set_cons_succ]
  refine reg_take (i := 5) (v := ?qav5) rfl (by kernel_rfl) (by kernel_rfl) (by kernel_rfl) (by rfl) ?qay5 hS ?qar5
  case qay5 => (rintro wx ⟨x1, x2, x3, x4, x5⟩; go_simp; all_goals (with_reducible rfl))
  try simp only [Act.put, List.setIfInBounds_toArray, List.set_cons_zero, List.set_cons_succ]
  obtain ⟨x1, x2, ⟨y1, y2, x3⟩, x4, x5⟩ := hS
  obtain ⟨ws, ews, hws, hgs⟩ := stored2 (.int .i64 N) (.slice p7 l.length k7) x3
  obtain ⟨z1, z2, z3⟩ := cells2 x3
  refine reg_unit (i := 6) (w' := ws) rfl (by kernel_rfl) (by rfl) (by rw [← ews]; go_simp) ⟨hgs.cell x1 (by simp), hgs.cell x2 (by simp), ⟨_, _, hws⟩, x4.grown hgs x4.size (fun k hk => by cases hk; simp), Nat.le_trans x5 hgs.size⟩ ?_
  try simp only [Act.put, List.setIfInBounds_toArray, List.set_cons_zero, List.set_cons_succ]
  refine wpAnyH_done (by kernel_rfl) ?_ _
  refine NoPanic.normal ?_
  have hb : Below w.heap.size w ws := x4.grown hgs x4.size (fun k hk => by cases hk; simp)
  have ho := hOa.grown hgs (by simp)
  obtain ⟨q1, q2, _⟩ := cells2 hws
  clear ews hk0 hk1 hk2 hk3
  go_wp2
  refine bodyPost_ret (v := .agg #[.int .i64 N, .slice p7 l.length k7]) ?_ rfl ⟨_, rfl, ho.mono (by omega), hb⟩
  simp [results, Try.results12, go_sem, *]

set_option maxHeartbeats 1000000 in
set_option maxRecDepth 100000 in
theorem twinActs_any (a : Option Addr) (n c : Nat) (l : List Ac) (w : World) (hn : n = l.length) (hl : l.length ≤ 1000000) (hd : ∀ p ∈ l, p.2.2.length ≤ 140737488355328) (hrd : RdA w (.slice a n c) l) :
    Calls Try.prog 13 #[.slice a n c] w fun e w' => ∃ v, e = .returned v ∧ OwA w' w.heap.size v l ∧ Below w.heap.size w w' := by
  have HC := hide hrd
  have HM := hide hn
  have HD := hide hd
  have hnn : n ≤ 1000000 := by omega
  clear hrd hn hl hd
  go_enter Try.func13, Try.ntmps13
  go_wp2
  go_loopw [3, 4] (fun v i wr => ∃ (k : Nat) (z : List (Ac × Value)), k ≤ n ∧ i = .int .i64 k ∧ Hid (z.map (·.1) = l.take k) ∧ Hid (wr.ownsRow w.heap.size 71 3 v z.length (cellsA z)) ∧ Hid (∀ p ∈ z, OwB wr w.heap.size p.2 p.1.2.2) ∧ Below w.heap.size w wr) (fun _ i _ => n - (intOf i).toNat)
  case atStart => exact ⟨0, [], Nat.zero_le _, rfl, rfl, World.ownsRow_nil _ _ _ _, by show ∀ p ∈ _, _; simp, Below.refl _ _⟩
  case round =>
    obtain ⟨k, z, hk, rfl, hz, ho, hp, hbel⟩ := hrel
    by_cases hlt : k < n
    · have hlt' : (k : Int) < n := by omega
      have hkl : k < l.length := by have := HM.out; omega
      have hzl : z.length = k := by
        have := congrArg List.length hz.out
        rw [List.length_map, List.length_take] at this
        omega
      obtain ⟨b, off, rfl, q0, q0', x, m, c9, q1, q2, q3⟩ := HC.out.at k hkl
      have hbl : b < w.heap.size := World.block_lt_of_cell? w _ q0
      have C0 := hide q0
      have C1 := hide q0'
      have C2 := hide q1
      have HQ := hide (q2.carry hbel)
      have HQ3 := hide q3
      have hK : Keeps (fun wx => wx.cell? ⟨b, off + k * 3, none⟩ = some (.bool (l[k]).1) ∧ wx.cell? ⟨b, off + k * 3 + 1, none⟩ = some (.int .i64 (l[k]).2.1) ∧ wx.cell? ⟨b, off + k * 3 + 2, none⟩ = some (.slice x m c9) ∧ Below w.heap.size w wx) := (keeps_cell _ _).and ((keeps_cell _ _).and ((keeps_cell _ _).and (keeps_below _)))
      have hS0 : (fun wx => wx.cell? ⟨b, off + k * 3, none⟩ = some (.bool (l[k]).1) ∧ wx.cell? ⟨b, off + k * 3 + 1, none⟩ = some (.int .i64 (l[k]).2.1) ∧ wx.cell? ⟨b, off + k * 3 + 2, none⟩ = some (.slice x m c9) ∧ Below w.heap.size w wx) wr := ⟨keeps_cell _ _ _ _ q0 hbel, keeps_cell _ _ _ _ q0' hbel, keeps_cell _ _ _ _ q1 hbel, hbel⟩
      clear q0 q0' q1 q2 q3
      go_wp2
      refine reg_begin hK (by kernel_rfl) hS0 ?_
      intro hS
      refine reg_take (i := 0) (v := ?qtv0) rfl (by kernel_rfl) (by kernel_rfl) (by kernel_rfl) (by rfl) ?qty0 hS ?qtr0
      case qty0 => (rintro wx ⟨x1, x2, x3, x4⟩; go_simp; all_goals (with_reducible rfl))
      try simp only [Act.put, List.setIfInBounds_toArray, List.set_cons_zero, List.set_cons_succ]
      refine reg_take (i := 1) (v := ?qtv1) rfl (by kernel_rfl) (by kernel_rfl) (by kernel_rfl) (by rfl) ?qty1 hS ?qtr1
      case qty1 => (rintro wx ⟨x1, x2, x3, x4⟩; go_simp; all_goals (with_reducible rfl))
      try simp only [Act.put, List.setIfInBounds_toArray, List.set_cons_zero, List.set_cons_succ]
      refine reg_take (i := 2) (v := ?qtv2) rfl (by kernel_rfl) (by kernel_rfl) (by kernel_rfl) (by rfl) ?qty2 hS ?qtr2
      case qty2 => (rintro wx ⟨x1, x2, x3, x4⟩; go_simp; all_goals (with_reducible rfl))
      try simp only [Act.put, List.setIfInBounds_toArray, List.set_cons_zero, List.set_cons_succ]
      refine reg_take (i := 3) (v := ?qtv3) rfl (by kernel_rfl) (by kernel_rfl) (by kernel_rfl) (by rfl) ?qty3 hS ?qtr3
      case qty3 => (rintro wx ⟨x1, x2, x3, x4⟩; go_simp; all_goals (with_reducible rfl))
      try simp only [Act.put, List.setIfInBounds_toArray, List.set_cons_zero, List.set_cons_succ]
      refine reg_take (i := 4) (v := ?qtv4) rfl (by kernel_rfl) (by kernel_rfl) (by kernel_rfl) (by rfl) ?qty4 hS ?qtr4
      case qty4 => (rintro wx ⟨x1, x2, x3, x4⟩; go_simp; all_goals (with_reducible rfl))
      try simp only [Act.put, List.setIfInBounds_toArray, List.set_cons_zero, List.set_cons_succ]
      refine reg_take (i := 5) (v := ?qtv5) rfl (by kernel_rfl) (by kernel_rfl) (by kernel_rfl) (by rfl) ?qty5 hS ?qtr5
      case qty5 => (rintro wx ⟨x1, x2, x3, x4⟩; go_simp; all_goals (with_reducible rfl))
      try simp only [Act.put, List.setIfInBounds_toArray, List.set_cons_zero, List.set_cons_succ]
      refine reg_take (i := 6) (v := ?qtv6) rfl (by kernel_rfl) (by kernel_rfl) (by kernel_rfl) (by rfl) ?qty6 hS ?qtr6
      case qty6 => (rintro wx ⟨x1, x2, x3, x4⟩; go_simp; all_goals (with_reducible rfl))
      try simp only [Act.put, List.setIfInBounds_toArray, List.set_cons_zero, List.set_cons_succ]
      refine reg_take (i := 7) (v := ?qtv7) rfl (by kernel_rfl) (by kernel_rfl) (by kernel_rfl) (by rfl) ?qty7 hS ?qtr7
      case qty7 => (rintro wx ⟨x1, x2, x3, x4⟩; go_simp; all_goals (with_reducible rfl))
      try simp only [Act.put, List.setIfInBounds_toArray, List.set_cons_zero, List.set_cons_succ]
      refine reg_take (i := 8) (v := ?qtv8) rfl (by kernel_rfl) (by kernel_rfl) (by kernel_rfl) (by rfl) ?qty8 hS ?qtr8
      case qty8 => (rintro wx ⟨x1, x2, x3, x4⟩; go_simp; all_goals (with_reducible rfl))
      try simp only [Act.put, List.setIfInBounds_toArray, List.set_cons_zero, List.set_cons_succ]
      refine reg_take (i := 9) (v := ?qtv9) rfl (by kernel_rfl) (by kernel_rfl) (by kernel_rfl) (by rfl) ?qty9 hS ?qtr9
      case qty9 => (rintro wx ⟨x1, x2, x3, x4⟩; go_simp; all_goals (with_reducible rfl))
      try simp only [Act.put, List.setIfInBounds_toArray, List.set_cons_zero, List.set_cons_succ]
      refine reg_take (i := 10) (v := ?qtv10) rfl (by kernel_rfl) (by kernel_rfl) (by kernel_rfl) (by rfl) ?qty10 hS ?qtr10
      case qty10 => (rintro wx ⟨x1, x2, x3, x4⟩; go_simp; all_goals (with_reducible rfl))
      try simp only [Act.put, List.setIfInBounds_toArray, List.set_cons_zero, List.set_cons_succ]
      refine reg_callg (i := 11) (R := fun v wy => ∃ p kk, v = .agg #[.int .i64 (l[k]).2.1, .slice p (l[k]).2.2.length kk] ∧ OwB wy wr.heap.size (.slice p (l[k]).2.2.length kk) (l[k]).2.2 ∧ Below wr.heap.size wr wy) rfl (by kernel_rfl) (by rfl) (by go_simp) ((twinPut_any (l[k]).2.1 x m c9 (l[k]).2.2 wr.drew HQ3.out (HD.out _ (List.getElem_mem hkl)) (HQ.out.carry (Below.refl _ _).drew)).mono fun e wy ⟨v, h1, h2, h3⟩ => by obtain ⟨p, kk, rfl⟩ := h2.form; exact ⟨_, h1, p, kk, rfl, h2, (Below.refl _ _).drew.trans h3⟩) ?_
      rintro v22 w7 ⟨p7, k7, rfl, hO7, hb7⟩
      have hS7 := hK _ _ hS0 hb7
      refine ⟨hS7, ?_⟩
      clear hS
      have hS := hS7
      try simp only [Act.put, List.setIfInBounds_toArray, List.set_cons_zero, List.set_cons_succ]
      refine reg_take (i := 12) (v := ?qtv12) rfl (by kernel_rfl) (by kernel_rfl) (by kernel_rfl) (by rfl) ?qty12 hS ?qtr12
      case qty12 => (rintro wx ⟨x1, x2, x3, x4⟩; go_simp; all_goals (with_reducible rfl))
      try simp only [Act.put, List.setIfInBounds_toArray, List.set_cons_zero, List.set_cons_succ]
      refine reg_run (i := 13) (v := .slice (some ⟨w7.heap.size, 0, none⟩) 1 1) (w' := w7.alloc (.cells #[.bool (l[k]).1, .int .i64 (l[k]).2.1, .slice p7 (l[k]).2.2.length k7] 71)) rfl (by kernel_rfl) (by rfl) (by go_simp) (hK _ _ hS ((Below.refl _ _).alloc (Nat.le_refl _) _)) ?_
      obtain ⟨w8, ew8⟩ : ∃ w8, w8 = w7.alloc (.cells #[.bool (l[k]).1, .int .i64 (l[k]).2.1, .slice p7 (l[k]).2.2.length k7] 71) := ⟨_, rfl⟩
      rw [← ew8]
      have hb8 : Below w7.heap.size w7 w8 := by rw [ew8]; exact (Below.refl _ _).alloc (Nat.le_refl _) _
      have hn8 : ∀ j u, ([Value.bool (l[k]).1, .int .i64 (l[k]).2.1, .slice p7 (l[k]).2.2.length k7] : List Value)[j]? = some u → w8.cell? ((⟨w7.heap.size, 0, none⟩ : Addr).add j) = some u := by
        intro j u hj
        rw [ew8]
        have := World.news_of_block (w := w7.alloc (.cells #[.bool (l[k]).1, .int .i64 (l[k]).2.1, .slice p7 (l[k]).2.2.length k7] 71)) (heap_alloc_new w7 _) j u (by simpa using hj)
        simpa using this
      have hB78 := hb7.trans (hb8.mono hb7.size)
      obtain ⟨i0, hi, hz0, hz1, hz2⟩ := info_parts Try.infoAct
      obtain ⟨v9, w9, hrun9, hown9, hg9, _⟩ := run_append_own (P := Try.prog) w8 w.heap.size 24 24 71 i0 _ 3 40 Try.underlying24 hi hz0 hz1 hz2 rfl (by decide) _ _ _ (own_carry ho.out hB78) ⟨w7.heap.size, 0, none⟩ 1 1 [.bool (l[k]).1, .int .i64 (l[k]).2.1, .slice p7 (l[k]).2.2.length k7] rfl hn8 (by intro u hu; simp at hu; rcases hu with rfl | rfl | rfl <;> rfl) (by unfold maxLen; omega) (by omega) (Nat.le_trans hbel.size hB78.size)
      have hrow : ∀ j, (u3).ownBlock = some j → ∃ cs t fr, w8.heap[j]? = some (.cells cs t fr) ∧ t ≠ 5 := fun j hj => by
        obtain ⟨cs, h⟩ := row_block (own_carry ho.out hB78) j hj
        exact ⟨cs, _, _, h, by decide⟩
      have hb9 : Below w.heap.size w w9 := (hbel.trans (hB78.mono hbel.size)).grown hg9 (Nat.le_trans hbel.size hB78.size) (fun j hj => (ho.out.lt j hj).1)
      have hkeep : ∀ (bb : Nat) (oo : Nat) (u : Value), bb < w.heap.size → w.cell? ⟨bb, oo, none⟩ = some u → w9.cell? ⟨bb, oo, none⟩ = some u := fun bb oo u h1 h2 => by rw [hb9.cell h1]; exact h2
      have hS9 : (fun wx => wx.cell? ⟨b, off + k * 3, none⟩ = some (.bool (l[k]).1) ∧ wx.cell? ⟨b, off + k * 3 + 1, none⟩ = some (.int .i64 (l[k]).2.1) ∧ wx.cell? ⟨b, off + k * 3 + 2, none⟩ = some (.slice x m c9) ∧ Below w.heap.size w wx) w9 := ⟨hkeep _ _ _ hbl C0.out, hkeep _ _ _ hbl C1.out, hkeep _ _ _ hbl C2.out, hb9⟩
      clear hi hz0 hz1 hz2 hn8
      try simp only [Act.put, List.setIfInBounds_toArray, List.set_cons_zero, List.set_cons_succ]
      refine reg_run (i := 14) (v := v9) (w' := w9) rfl (by kernel_rfl) (by rfl) (run_app (v := u3) (y := .slice (some ⟨w7.heap.size, 0, none⟩) 1 1) rfl rfl rfl hrun9) hS9 ?_
      clear hS
      have hS := hS9
      try simp only [Act.put, List.setIfInBounds_toArray, List.set_cons_zero, List.set_cons_succ]
      refine reg_take (i := 15) (v := ?qtv15) rfl (by kernel_rfl) (by kernel_rfl) (by kernel_rfl) (by rfl) ?qty15 hS ?qtr15
      case qty15 => (rintro wx ⟨x1, x2, x3, x4⟩; go_simp; all_goals (with_reducible rfl))
      try simp only [Act.put, List.setIfInBounds_toArray, List.set_cons_zero, List.set_cons_succ]
      refine wpAnyH_done (by kernel_rfl) ?_ _
      refine NoPanic.normal ?_
      clear hS hS7 hS9 hS0 hK hrun9
      go_wp2
      go_roundw
      case rel =>
        refine ⟨k + 1, z ++ [(l[k], .slice p7 (l[k]).2.2.length k7)], by omega, by go_num, ?_, ?_, ?_, hb9⟩
        · show _ = _
          rw [List.map_append, hz.out, List.take_succ_eq_append_getElem hkl]; rfl
        · show World.ownsRow _ _ _ _ _ _ _
          rw [cellsA_snoc, List.length_append]
          exact hown9
        · intro p hpz
          rcases List.mem_append.1 hpz with h | h
          · exact ((hp.out p h).carry hB78).keptT hg9 hrow
          · rw [List.mem_singleton.1 h]; exact ((hO7.carry hb8).keptT hg9 hrow).mono hbel.size
      case measure => simp [intOf] <;> omega
    · have hlt' : decide ((k : Int) < n) = false := by simpa using (by omega : ¬ (k : Int) < n)
      go_wp2
      go_ret
      refine ⟨_, rfl, ⟨z, ?_, ?_, hp.out⟩, hbel⟩
      · rw [hz.out, List.take_of_length_le (by have := HM.out; omega)]
      · have e : l.length = z.length := by
          have := congrArg List.length hz.out
          rw [List.length_map, List.length_take] at this
          have := HM.out
          omega
        rw [e]
        exact ho.out

end Go.Proofs.Ytlibnefibeikcaa
