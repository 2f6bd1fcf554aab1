/-
  What the statements' turn does: it turns bytes, in rows of bytes of one's own alone.
-/
import Derived.Test.YtmcgkhjhdickoaaRCrash
namespace Go.Proofs.Ytmcgkhjhdickoaa
open Go.RowKit
set_option linter.unusedVariables false
set_option linter.unusedSimpArgs false

/-- Nothing has turned but bytes in rows of bytes. -/
def Turned (w w' : World) : Prop := w.heap.size ≤ w'.heap.size ∧ (∀ (i : Nat) cs t fr, w.heap[i]? = some (.cells cs t fr) → t ≠ 5 → w'.heap[i]? = some (.cells cs t fr)) ∧
  ∀ (base g n c : Nat) (l : List UInt8), OwB w base (.slice (some ⟨g, 0, none⟩) n c) l → ∃ l', OwB w' base (.slice (some ⟨g, 0, none⟩) n c) l'
theorem Turned.refl (w : World) : Turned w w := ⟨Nat.le_refl _, fun _ _ _ _ h _ => h, fun _ _ _ _ l h => ⟨l, h⟩⟩
theorem Turned.trans {a b c : World} (h : Turned a b) (k : Turned b c) : Turned a c :=
  ⟨Nat.le_trans h.1 k.1, fun i cs t fr hi ht => k.2.1 i cs t fr (h.2.1 i cs t fr hi ht) ht, fun base g n cc l hO => by
    obtain ⟨l', h'⟩ := h.2.2 base g n cc l hO
    exact k.2.2 base g n cc l' h'⟩
theorem Turned.of_below {a b : World} (h : Below a.heap.size a b) : Turned a b :=
  ⟨h.size, fun i cs t fr hi _ => keeps_block _ _ _ _ hi h, fun base g n c l hO => ⟨l, hO.carry h⟩⟩
theorem Turned.set {w : World} {base g n c : Nat} {l : List UInt8} (h : OwB w base (.slice (some ⟨g, 0, none⟩) n c) l) (j : Nat) (b : UInt8) : Turned w (w.setCell ⟨g, j, none⟩ (.int .u8 b.toNat)) := by
  have hg := (h.stored j b).2
  refine ⟨hg.size, fun i cs t fr hi ht => ?_, fun base' g' n' c' l' hO => ?_⟩
  · refine (hg.block i (Array.getElem?_eq_some_iff.1 hi).1 fun e => ?_).trans hi
    cases e
    obtain ⟨cs', hc⟩ := row_block h g rfl
    rw [hi] at hc
    cases hc
    exact ht rfl
  · by_cases e : g' = g
    · subst e
      exact ⟨_, (hO.stored j b).1⟩
    · exact ⟨l', World.ownsRow.kept hO hg (.inr (by simp [Value.ownBlock]; omega))⟩
theorem OwB.turned {w w' : World} {base : Nat} {v : Value} {l : List UInt8} (h : OwB w base v l) (hT : Turned w w') : ∃ l', OwB w' base v l' := by
  rcases id h with ⟨_, ⟨rfl, hn⟩ | ⟨g, cap, cur, rfl, _⟩⟩
  · exact ⟨[], World.ownsRow_nil _ _ _ _⟩
  · exact hT.2.2 _ _ _ _ _ h
theorem OwB.len' {w : World} {base n c : Nat} {a : Option Addr} {l : List UInt8} (h : OwB w base (.slice a n c) l) : n = l.length := by
  obtain ⟨a, c', e⟩ := h.form
  cases e; rfl
theorem own_keptU {w w' : World} {base : Nat} {e : TypeId} {s : Nat} {v : Value} {n : Nat} {xs : List Value} (h : w.ownsRow base e s v n xs) (hT : Turned w w') (he : e ≠ 5) : w'.ownsRow base e s v n xs := by
  refine ⟨h.1, ?_⟩
  rcases h.2 with h | ⟨g, cap, cur, rfl, h1, h2, h3⟩
  · exact .inl h
  · exact .inr ⟨g, cap, cur, rfl, h1, hT.2.1 _ _ _ _ h2 he, h3⟩
theorem turned_z {w w' : World} {base : Nat} (hT : Turned w w') : ∀ z : List (Pu × Value), (∀ p ∈ z, OwB w base p.2 p.1.2) → ∃ z' : List (Pu × Value), cellsW z' = cellsW z ∧ z'.length = z.length ∧ ∀ p ∈ z', OwB w' base p.2 p.1.2
  | [], _ => ⟨[], rfl, rfl, by simp⟩
  | p :: z, h => by
    obtain ⟨z', h1, h2, h3⟩ := turned_z hT z (fun q hq => h q (List.mem_cons_of_mem _ hq))
    obtain ⟨l', hl⟩ := (h p List.mem_cons_self).turned hT
    refine ⟨((p.1.1, l'), p.2) :: z', ?_, by simp [h2], fun q hq => ?_⟩
    · show [Value.int .i64 p.1.1, p.2] ++ cellsW z' = [Value.int .i64 p.1.1, p.2] ++ cellsW z
      rw [h1]
    · rcases List.mem_cons.1 hq with rfl | hq
      · exact hl
      · exact h3 q hq
theorem turned_za {w w' : World} {base : Nat} (hT : Turned w w') : ∀ z : List (Ac × Value), (∀ p ∈ z, OwB w base p.2 p.1.2.2) → ∃ z' : List (Ac × Value), cellsA z' = cellsA z ∧ z'.length = z.length ∧ ∀ p ∈ z', OwB w' base p.2 p.1.2.2
  | [], _ => ⟨[], rfl, rfl, by simp⟩
  | p :: z, h => by
    obtain ⟨z', h1, h2, h3⟩ := turned_za hT z (fun q hq => h q (List.mem_cons_of_mem _ hq))
    obtain ⟨l', hl⟩ := (h p List.mem_cons_self).turned hT
    refine ⟨((p.1.1, p.1.2.1, l'), p.2) :: z', ?_, by simp [h2], fun q hq => ?_⟩
    · show [Value.bool p.1.1, .int .i64 p.1.2.1, p.2] ++ cellsA z' = [Value.bool p.1.1, .int .i64 p.1.2.1, p.2] ++ cellsA z
      rw [h1]
    · rcases List.mem_cons.1 hq with rfl | hq
      · exact hl
      · exact h3 q hq
/-- A disk of one's own is still one. -/
theorem OwD.turned {w w' : World} {base : Nat} {v : Value} {d : Dk} (h : OwD w base v d) (hT : Turned w w') : ∃ d', OwD w' base v d' := by
  obtain ⟨x, y, z, rfl, h1, ⟨zy, e1, hy, hy2⟩, ⟨zz, e2, hz, hz2⟩⟩ := h
  obtain ⟨l1, g1⟩ := h1.turned hT
  obtain ⟨zy', q1, q2, q3⟩ := turned_z hT zy hy2
  obtain ⟨zz', r1, r2, r3⟩ := turned_za hT zz hz2
  refine ⟨(l1, zy'.map (·.1), zz'.map (·.1)), x, y, z, rfl, g1, ⟨zy', rfl, ?_, q3⟩, ⟨zz', rfl, ?_, r3⟩⟩
  · rw [q1, List.length_map, q2]; rw [← e1, List.length_map] at hy; exact own_keptU hy hT (by decide)
  · rw [r1, List.length_map, r2]; rw [← e2, List.length_map] at hz; exact own_keptU hz hT (by decide)

theorem wrap8 (b : UInt8) : IntKind.u8.wrap ((b.toNat : Int) + 1) = ((b + 1).toNat : Int) := by
  rw [IntKind.wrap_u8, UInt8.toNat_add]
  have : (1 : UInt8).toNat = 1 := rfl
  rw [this]; omega
/-- One byte is turned. -/
theorem turn_step {w1 wr : World} {base n c : Nat} {a : Option Addr} {l : List UInt8} (hO : OwB w1 base (.slice a n c) l) (hT : Turned w1 wr) (hB : Below base w1 wr) (k : Nat) (hk : k < n) :
    ∃ (g : Nat) (bk bj : Int), a = some ⟨g, 0, none⟩ ∧ wr.cell? ⟨g, k, none⟩ = some (.int .u8 bk) ∧ wr.frozen? ⟨g, k, none⟩ = false ∧ IntKind.u8.wrap (bk + 1) = bj ∧
      Hid (Turned w1 (wr.drew.setCell ⟨g, k, none⟩ (.int .u8 bj)) ∧ Below base w1 (wr.drew.setCell ⟨g, k, none⟩ (.int .u8 bj))) := by
  have hn := hO.len'
  rcases id hO with ⟨_, ⟨_, h0⟩ | ⟨g, cap, cur, e, hg, _⟩⟩
  · omega
  cases e
  obtain ⟨l', hO'⟩ := hO.turned hT
  have hn' := hO'.len'
  have hk' : k < l'.length := by omega
  refine ⟨g, (l'[k]).toNat, _, rfl, hO'.at k hk', hO'.fz k, wrap8 _, ?_, ?_⟩
  · have := (hO'.carry (Below.refl wr.heap.size wr).drew).stored k (l'[k] + 1)
    exact (hT.trans (Turned.of_below (Below.refl wr.heap.size wr).drew)).trans (Turned.set (hO'.carry (Below.refl wr.heap.size wr).drew) k _)
  · exact hB.drew.setCell hg _

set_option maxHeartbeats 2000000 in
set_option maxRecDepth 100000 in
theorem turn_any {d : Dk} {v : Value} (base : Nat) (w : World) (hO : OwD w base v d) (hb : base ≤ w.heap.size) :
    Calls Try.prog 33 #[v] w fun e w' => e = .returned (.tuple #[]) ∧ Below base w w' ∧ Turned w w' := by
  obtain ⟨a1, c1, a2, c2, a3, c3, rfl⟩ := hO.form
  obtain ⟨o1, o2, o3⟩ : OwB w base (.slice a1 d.1.length c1) d.1 ∧ OwW w base (.slice a2 d.2.1.length c2) d.2.1 ∧ OwA w base (.slice a3 d.2.2.length c3) d.2.2 := by
    obtain ⟨_, _, _, e, h1, h2, h3⟩ := hO
    injection e with e
    simp at e
    obtain ⟨rfl, rfl, rfl⟩ := e
    exact ⟨h1, h2, h3⟩
  have hl1 : d.1.length ≤ maxLen := o1.rd.len_le
  have hl2 : d.2.1.length ≤ maxLen := o2.rd.len_le
  have hl3 : d.2.2.length ≤ maxLen := o3.rd.len_le
  unfold maxLen at hl1 hl2 hl3
  obtain ⟨w1, ew⟩ : ∃ w1, w.alloc (.cells #[.slice a1 d.1.length c1, .slice a2 d.2.1.length c2, .slice a3 d.2.2.length c3] 26) = w1 := ⟨_, rfl⟩
  have hb1 : Below w.heap.size w w1 := by rw [← ew]; exact (Below.refl _ _).alloc (Nat.le_refl _) _
  have hX1 : w1.heap[w.heap.size]? = some (.cells #[.slice a1 d.1.length c1, .slice a2 d.2.1.length c2, .slice a3 d.2.2.length c3] 26 (0, 0)) := by rw [← ew]; exact heap_alloc_new _ _
  have O1 := hide (o1.carry hb1)
  have O2 := hide (o2.carry hb1)
  have O3 := hide (o3.carry hb1)
  have HBW := hide (hb1.mono hb)
  have HTW := hide (Turned.of_below hb1)
  have HBX : Hid (∀ wr, Turned w1 wr → wr.heap[w.heap.size]? = some (.cells #[.slice a1 d.1.length c1, .slice a2 d.2.1.length c2, .slice a3 d.2.2.length c3] 26 (0, 0))) := fun wr hT => hT.2.1 _ _ _ _ hX1 (by decide)
  have H2 : Hid (∀ k, k < d.2.1.length → ∃ gw av cv lv, a2 = some ⟨gw, 0, none⟩ ∧ OwB w1 base (.slice av lv.length cv) lv ∧ Hid (∀ wr, Turned w1 wr → wr.cell? ⟨gw, k * 2 + 1, none⟩ = some (.slice av lv.length cv))) := by
    intro k hk
    obtain ⟨gw, h1, h2, h3, vv, h4, h5⟩ := O2.out.at k hk
    subst h1
    obtain ⟨zy, e1, hy, hy2⟩ := id O2.out
    obtain ⟨cs, hc⟩ := row_block hy gw rfl
    obtain ⟨av, cv, rfl⟩ := h5.form
    refine ⟨gw, av, cv, _, rfl, h5, fun wr hT => ?_⟩
    rw [World.cell?_of_block (w := w1) (a := ⟨gw, k * 2 + 1, none⟩) (by rw [hc]; exact hT.2.1 _ _ _ _ hc (by decide))]
    exact h4
  have H3 : Hid (∀ k, k < d.2.2.length → ∃ gw av cv lv, a3 = some ⟨gw, 0, none⟩ ∧ OwB w1 base (.slice av lv.length cv) lv ∧ Hid (∀ wr, Turned w1 wr → wr.cell? ⟨gw, k * 3 + 2, none⟩ = some (.slice av lv.length cv))) := by
    intro k hk
    obtain ⟨zy, e1, hy, hy2⟩ := id O3.out
    have hkz : k < zy.length := by have := congrArg List.length e1; simp at this; omega
    rcases id hy.2 with ⟨e, h0⟩ | ⟨gw, cap, cur, e, _⟩
    · exfalso; omega
    cases e
    obtain ⟨cs, hc⟩ := row_block hy gw rfl
    have h4 := hy.cells (g := gw) rfl _ _ (cellsA_get zy k hkz).2.2
    rw [Addr.add_lit] at h4
    have h5 := hy2 _ (List.getElem_mem hkz)
    obtain ⟨av, cv, ev⟩ := h5.form
    rw [ev] at h4 h5
    refine ⟨gw, av, cv, _, rfl, h5, fun wr hT => ?_⟩
    rw [World.cell?_of_block (w := w1) (a := ⟨gw, k * 3 + 2, none⟩) (by rw [hc]; exact hT.2.1 _ _ _ _ hc (by decide))]
    simpa using h4
  clear o1 o2 o3 hO hb hb1 hX1 O2 O3
  generalize e1 : d.1.length = n1 at *
  generalize e2 : d.2.1.length = n2 at *
  generalize e3 : d.2.2.length = n3 at *
  clear e1 e2 e3
  go_enter Try.func33, Try.ntmps33
  go_wp2
  clear ew
  go_loopw [2] (fun i wr => ∃ k : Nat, k ≤ n1 ∧ i = .int .i64 k ∧ Hid (Turned w1 wr ∧ Below base w1 wr)) (fun i _ => n1 - (intOf i).toNat)
  case atStart => exact ⟨0, Nat.zero_le _, rfl, Turned.refl _, Below.refl _ _⟩
  case round =>
    obtain ⟨k, hk, rfl, hT⟩ := hrel
    obtain ⟨p0, p1, p2, _⟩ := cells3 (HBX.out wr hT.out.1)
    by_cases hlt : k < n1
    · have hlt' : (k : Int) < n1 := by omega
      obtain ⟨g, bk, bj, rfl, hc, hf, hw8, HN⟩ := turn_step O1.out hT.out.1 hT.out.2 k hlt
      have hK : Keeps (fun wx => wx.cell? ⟨w.heap.size, 0, none⟩ = some (.slice (some ⟨g, 0, none⟩) n1 c1) ∧ wx.cell? ⟨g, k, none⟩ = some (.int .u8 bk)) := (keeps_cell _ _).and (keeps_cell _ _)
      go_wp2
      refine regL_begin hK 10 (by kernel_rfl) ⟨p0, hc⟩ ?_
      intro hS
      refine regL_take (i := 0) (v := ?qav0) rfl (by kernel_rfl) (by kernel_rfl) (by kernel_rfl) rfl (by kernel_rfl) (by kernel_rfl) (by rfl) ?qay0 hS ?qar0
      case qay0 => (rintro wx ⟨x0, x1⟩; go_simp; all_goals (with_reducible rfl))
      try simp only [Act.put, List.setIfInBounds_toArray, List.set_cons_zero, List.set_cons_succ]
      refine regL_take (i := 1) (v := ?qav1) rfl (by kernel_rfl) (by kernel_rfl) (by kernel_rfl) rfl (by kernel_rfl) (by kernel_rfl) (by rfl) ?qay1 hS ?qar1
      case qay1 => (rintro wx ⟨x0, x1⟩; go_simp; all_goals (with_reducible rfl))
      try simp only [Act.put, List.setIfInBounds_toArray, List.set_cons_zero, List.set_cons_succ]
      refine regL_take (i := 2) (v := ?qav2) rfl (by kernel_rfl) (by kernel_rfl) (by kernel_rfl) rfl (by kernel_rfl) (by kernel_rfl) (by rfl) ?qay2 hS ?qar2
      case qay2 => (rintro wx ⟨x0, x1⟩; go_simp; all_goals (with_reducible rfl))
      try simp only [Act.put, List.setIfInBounds_toArray, List.set_cons_zero, List.set_cons_succ]
      refine regL_take (i := 3) (v := ?qav3) rfl (by kernel_rfl) (by kernel_rfl) (by kernel_rfl) rfl (by kernel_rfl) (by kernel_rfl) (by rfl) ?qay3 hS ?qar3
      case qay3 => (rintro wx ⟨x0, x1⟩; go_simp; all_goals (with_reducible rfl))
      try simp only [Act.put, List.setIfInBounds_toArray, List.set_cons_zero, List.set_cons_succ]
      refine regL_take (i := 4) (v := ?qav4) rfl (by kernel_rfl) (by kernel_rfl) (by kernel_rfl) rfl (by kernel_rfl) (by kernel_rfl) (by rfl) ?qay4 hS ?qar4
      case qay4 => (rintro wx ⟨x0, x1⟩; go_simp; all_goals (with_reducible rfl))
      try simp only [Act.put, List.setIfInBounds_toArray, List.set_cons_zero, List.set_cons_succ]
      refine regL_take (i := 5) (v := ?qav5) rfl (by kernel_rfl) (by kernel_rfl) (by kernel_rfl) rfl (by kernel_rfl) (by kernel_rfl) (by rfl) ?qay5 hS ?qar5
      case qay5 => (rintro wx ⟨x0, x1⟩; go_simp; all_goals (with_reducible rfl))
      try simp only [Act.put, List.setIfInBounds_toArray, List.set_cons_zero, List.set_cons_succ]
      refine regL_take (i := 6) (v := ?qav6) rfl (by kernel_rfl) (by kernel_rfl) (by kernel_rfl) rfl (by kernel_rfl) (by kernel_rfl) (by rfl) ?qay6 hS ?qar6
      case qay6 => (rintro wx ⟨x0, x1⟩; go_simp; all_goals (with_reducible rfl))
      try simp only [Act.put, List.setIfInBounds_toArray, List.set_cons_zero, List.set_cons_succ]
      refine regL_take (i := 7) (v := ?qav7) rfl (by kernel_rfl) (by kernel_rfl) (by kernel_rfl) rfl (by kernel_rfl) (by kernel_rfl) (by rfl) ?qay7 hS ?qar7
      case qay7 => (rintro wx ⟨x0, x1⟩; go_simp; all_goals (with_reducible rfl))
      try simp only [Act.put, List.setIfInBounds_toArray, List.set_cons_zero, List.set_cons_succ]
      refine regL_take (i := 8) (v := ?qav8) rfl (by kernel_rfl) (by kernel_rfl) (by kernel_rfl) rfl (by kernel_rfl) (by kernel_rfl) (by rfl) ?qay8 hS ?qar8
      case qay8 => (rintro wx ⟨x0, x1⟩; go_simp; all_goals (with_reducible rfl))
      try simp only [Act.put, List.setIfInBounds_toArray, List.set_cons_zero, List.set_cons_succ]
      refine regL_take (i := 9) (v := ?qav9) rfl (by kernel_rfl) (by kernel_rfl) (by kernel_rfl) rfl (by kernel_rfl) (by kernel_rfl) (by rfl) ?qay9 hS ?qar9
      case qay9 => (rintro wx ⟨x0, x1⟩; go_simp; all_goals (with_reducible rfl))
      try simp only [Act.put, List.setIfInBounds_toArray, List.set_cons_zero, List.set_cons_succ]
      refine regL_last (i := 10) (w' := wr.drew.setCell ⟨g, k, none⟩ (.int .u8 bj)) rfl (by kernel_rfl) (by kernel_rfl) (by rfl) (by go_simp) ?_
      try simp only [Act.put, List.setIfInBounds_toArray, List.set_cons_zero, List.set_cons_succ]
      refine wpAnyL_done (by kernel_rfl) ?_ _
      refine NoPanic.normal ?_
      go_wp2
      go_roundw
      case rel => exact ⟨k + 1, by omega, by go_num, HN.out⟩
      case measure => simp [intOf] <;> omega
    · have hlt' : decide ((k : Int) < n1) = false := by simpa using (by omega : ¬ (k : Int) < n1)
      go_wp2
      obtain ⟨wk, ewk⟩ : ∃ wk, wk = wr := ⟨_, rfl⟩
      rw [← ewk]
      rw [← ewk] at hT p0 p1 p2
      clear ewk hlt hlt' hk p0 p1 p2
      go_loopw [3] (fun i wr => ∃ k : Nat, k ≤ n2 ∧ i = .int .i64 k ∧ Hid (Turned w1 wr ∧ Below base w1 wr)) (fun i _ => n2 - (intOf i).toNat)
      case atStart => exact ⟨0, Nat.zero_le _, rfl, hT⟩
      case round =>
        clear hT
        obtain ⟨k, hk, rfl, hT⟩ := hrel
        obtain ⟨p0, p1, p2, _⟩ := cells3 (HBX.out wr hT.out.1)
        by_cases hlt : k < n2
        · have hlt' : (k : Int) < n2 := by omega
          obtain ⟨gw, av, cv, lv, rfl, hOv, HCV⟩ := H2.out k hlt
          have hlv : lv.length ≤ maxLen := hOv.rd.len_le
          unfold maxLen at hlv
          have HOV := hide hOv
          clear hOv
          generalize lv.length = m at *
          have hcv := HCV.out wr hT.out.1
          go_wp2
          obtain ⟨wk, ewk⟩ : ∃ wk, wk = wr := ⟨_, rfl⟩
          rw [← ewk]
          rw [← ewk] at hT
          clear ewk hcv p0 p1 p2
          go_loopw [4] (fun i wr => ∃ j : Nat, j ≤ m ∧ i = .int .i64 j ∧ Hid (Turned w1 wr ∧ Below base w1 wr)) (fun i _ => m - (intOf i).toNat)
          case atStart => exact ⟨0, Nat.zero_le _, rfl, hT⟩
          case round =>
            clear hT
            obtain ⟨j, hj, rfl, hT⟩ := hrel
            obtain ⟨p0, p1, p2, _⟩ := cells3 (HBX.out wr hT.out.1)
            have hcv := HCV.out wr hT.out.1
            by_cases hjt : j < m
            · have hjt' : (j : Int) < m := by omega
              obtain ⟨g, bk, bj, rfl, hc, hf, hw8, HN⟩ := turn_step HOV.out hT.out.1 hT.out.2 j hjt
              have hK : Keeps (fun wx => wx.cell? ⟨w.heap.size, 1, none⟩ = some (.slice (some ⟨gw, 0, none⟩) n2 c2) ∧ wx.cell? ⟨gw, k * 2 + 1, none⟩ = some (.slice (some ⟨g, 0, none⟩) m cv) ∧ wx.cell? ⟨g, j, none⟩ = some (.int .u8 bk)) := (keeps_cell _ _).and ((keeps_cell _ _).and (keeps_cell _ _))
              go_wp2
              refine regL_begin hK 18 (by kernel_rfl) ⟨p1, hcv, hc⟩ ?_
              intro hS
              refine regL_take (i := 0) (v := ?qbv0) rfl (by kernel_rfl) (by kernel_rfl) (by kernel_rfl) rfl (by kernel_rfl) (by kernel_rfl) (by rfl) ?qby0 hS ?qbr0
              case qby0 => (rintro wx ⟨x0, x1, x2⟩; go_simp; all_goals (with_reducible rfl))
              try simp only [Act.put, List.setIfInBounds_toArray, List.set_cons_zero, List.set_cons_succ]
              refine regL_take (i := 1) (v := ?qbv1) rfl (by kernel_rfl) (by kernel_rfl) (by kernel_rfl) rfl (by kernel_rfl) (by kernel_rfl) (by rfl) ?qby1 hS ?qbr1
              case qby1 => (rintro wx ⟨x0, x1, x2⟩; go_simp; all_goals (with_reducible rfl))
              try simp only [Act.put, List.setIfInBounds_toArray, List.set_cons_zero, List.set_cons_succ]
              refine regL_take (i := 2) (v := ?qbv2) rfl (by kernel_rfl) (by kernel_rfl) (by kernel_rfl) rfl (by kernel_rfl) (by kernel_rfl) (by rfl) ?qby2 hS ?qbr2
              case qby2 => (rintro wx ⟨x0, x1, x2⟩; go_simp; all_goals (with_reducible rfl))
              try simp only [Act.put, List.setIfInBounds_toArray, List.set_cons_zero, List.set_cons_succ]
              refine regL_take (i := 3) (v := ?qbv3) rfl (by kernel_rfl) (by kernel_rfl) (by kernel_rfl) rfl (by kernel_rfl) (by kernel_rfl) (by rfl) ?qby3 hS ?qbr3
              case qby3 => (rintro wx ⟨x0, x1, x2⟩; go_simp; all_goals (with_reducible rfl))
              try simp only [Act.put, List.setIfInBounds_toArray, List.set_cons_zero, List.set_cons_succ]
              refine regL_take (i := 4) (v := ?qbv4) rfl (by kernel_rfl) (by kernel_rfl) (by kernel_rfl) rfl (by kernel_rfl) (by kernel_rfl) (by rfl) ?qby4 hS ?qbr4
              case qby4 => (rintro wx ⟨x0, x1, x2⟩; go_simp; all_goals (with_reducible rfl))
              try simp only [Act.put, List.setIfInBounds_toArray, List.set_cons_zero, List.set_cons_succ]
              refine regL_take (i := 5) (v := ?qbv5) rfl (by kernel_rfl) (by kernel_rfl) (by kernel_rfl) rfl (by kernel_rfl) (by kernel_rfl) (by rfl) ?qby5 hS ?qbr5
              case qby5 => (rintro wx ⟨x0, x1, x2⟩; go_simp; all_goals (with_reducible rfl))
              try simp only [Act.put, List.setIfInBounds_toArray, List.set_cons_zero, List.set_cons_succ]
              refine regL_take (i := 6) (v := ?qbv6) rfl (by kernel_rfl) (by kernel_rfl) (by kernel_rfl) rfl (by kernel_rfl) (by kernel_rfl) (by rfl) ?qby6 hS ?qbr6
              case qby6 => (rintro wx ⟨x0, x1, x2⟩; go_simp; all_goals (with_reducible rfl))
              try simp only [Act.put, List.setIfInBounds_toArray, List.set_cons_zero, List.set_cons_succ]
              refine regL_take (i := 7) (v := ?qbv7) rfl (by kernel_rfl) (by kernel_rfl) (by kernel_rfl) rfl (by kernel_rfl) (by kernel_rfl) (by rfl) ?qby7 hS ?qbr7
              case qby7 => (rintro wx ⟨x0, x1, x2⟩; go_simp; all_goals (with_reducible rfl))
              try simp only [Act.put, List.setIfInBounds_toArray, List.set_cons_zero, List.set_cons_succ]
              refine regL_take (i := 8) (v := ?qbv8) rfl (by kernel_rfl) (by kernel_rfl) (by kernel_rfl) rfl (by kernel_rfl) (by kernel_rfl) (by rfl) ?qby8 hS ?qbr8
              case qby8 => (rintro wx ⟨x0, x1, x2⟩; go_simp; all_goals (with_reducible rfl))
              try simp only [Act.put, List.setIfInBounds_toArray, List.set_cons_zero, List.set_cons_succ]
              refine regL_take (i := 9) (v := ?qbv9) rfl (by kernel_rfl) (by kernel_rfl) (by kernel_rfl) rfl (by kernel_rfl) (by kernel_rfl) (by rfl) ?qby9 hS ?qbr9
              case qby9 => (rintro wx ⟨x0, x1, x2⟩; go_simp; all_goals (with_reducible rfl))
              try simp only [Act.put, List.setIfInBounds_toArray, List.set_cons_zero, List.set_cons_succ]
              refine regL_take (i := 10) (v := ?qbv10) rfl (by kernel_rfl) (by kernel_rfl) (by kernel_rfl) rfl (by kernel_rfl) (by kernel_rfl) (by rfl) ?qby10 hS ?qbr10
              case qby10 => (rintro wx ⟨x0, x1, x2⟩; go_simp; all_goals (with_reducible rfl))
              try simp only [Act.put, List.setIfInBounds_toArray, List.set_cons_zero, List.set_cons_succ]
              refine regL_take (i := 11) (v := ?qbv11) rfl (by kernel_rfl) (by kernel_rfl) (by kernel_rfl) rfl (by kernel_rfl) (by kernel_rfl) (by rfl) ?qby11 hS ?qbr11
              case qby11 => (rintro wx ⟨x0, x1, x2⟩; go_simp; all_goals (with_reducible rfl))
              try simp only [Act.put, List.setIfInBounds_toArray, List.set_cons_zero, List.set_cons_succ]
              refine regL_take (i := 12) (v := ?qbv12) rfl (by kernel_rfl) (by kernel_rfl) (by kernel_rfl) rfl (by kernel_rfl) (by kernel_rfl) (by rfl) ?qby12 hS ?qbr12
              case qby12 => (rintro wx ⟨x0, x1, x2⟩; go_simp; all_goals (with_reducible rfl))
              try simp only [Act.put, List.setIfInBounds_toArray, List.set_cons_zero, List.set_cons_succ]
              refine regL_take (i := 13) (v := ?qbv13) rfl (by kernel_rfl) (by kernel_rfl) (by kernel_rfl) rfl (by kernel_rfl) (by kernel_rfl) (by rfl) ?qby13 hS ?qbr13
              case qby13 => (rintro wx ⟨x0, x1, x2⟩; go_simp; all_goals (with_reducible rfl))
              try simp only [Act.put, List.setIfInBounds_toArray, List.set_cons_zero, List.set_cons_succ]
              refine regL_take (i := 14) (v := ?qbv14) rfl (by kernel_rfl) (by kernel_rfl) (by kernel_rfl) rfl (by kernel_rfl) (by kernel_rfl) (by rfl) ?qby14 hS ?qbr14
              case qby14 => (rintro wx ⟨x0, x1, x2⟩; go_simp; all_goals (with_reducible rfl))
              try simp only [Act.put, List.setIfInBounds_toArray, List.set_cons_zero, List.set_cons_succ]
              refine regL_take (i := 15) (v := ?qbv15) rfl (by kernel_rfl) (by kernel_rfl) (by kernel_rfl) rfl (by kernel_rfl) (by kernel_rfl) (by rfl) ?qby15 hS ?qbr15
              case qby15 => (rintro wx ⟨x0, x1, x2⟩; go_simp; all_goals (with_reducible rfl))
              try simp only [Act.put, List.setIfInBounds_toArray, List.set_cons_zero, List.set_cons_succ]
              refine regL_take (i := 16) (v := ?qbv16) rfl (by kernel_rfl) (by kernel_rfl) (by kernel_rfl) rfl (by kernel_rfl) (by kernel_rfl) (by rfl) ?qby16 hS ?qbr16
              case qby16 => (rintro wx ⟨x0, x1, x2⟩; go_simp; all_goals (with_reducible rfl))
              try simp only [Act.put, List.setIfInBounds_toArray, List.set_cons_zero, List.set_cons_succ]
              refine regL_take (i := 17) (v := ?qbv17) rfl (by kernel_rfl) (by kernel_rfl) (by kernel_rfl) rfl (by kernel_rfl) (by kernel_rfl) (by rfl) ?qby17 hS ?qbr17
              case qby17 => (rintro wx ⟨x0, x1, x2⟩; go_simp; all_goals (with_reducible rfl))
              try simp only [Act.put, List.setIfInBounds_toArray, List.set_cons_zero, List.set_cons_succ]
              refine regL_last (i := 18) (w' := wr.drew.setCell ⟨g, j, none⟩ (.int .u8 bj)) rfl (by kernel_rfl) (by kernel_rfl) (by rfl) (by go_simp) ?_
              try simp only [Act.put, List.setIfInBounds_toArray, List.set_cons_zero, List.set_cons_succ]
              refine wpAnyL_done (by kernel_rfl) ?_ _
              refine NoPanic.normal ?_
              go_wp2
              go_roundw
              case rel => exact ⟨j + 1, by omega, by go_num, HN.out⟩
              case measure => simp [intOf] <;> omega
            · have hjt' : decide ((j : Int) < m) = false := by simpa using (by omega : ¬ (j : Int) < m)
              go_wp2
              go_roundw
              case rel => exact ⟨k + 1, by omega, by go_num, hT⟩
              case measure => simp [intOf] <;> omega
        · have hlt' : decide ((k : Int) < n2) = false := by simpa using (by omega : ¬ (k : Int) < n2)
          go_wp2
          obtain ⟨wk, ewk⟩ : ∃ wk, wk = wr := ⟨_, rfl⟩
          rw [← ewk]
          rw [← ewk] at hT
          clear ewk hlt hlt' hk p0 p1 p2
          go_loopw [5] (fun i wr => ∃ k : Nat, k ≤ n3 ∧ i = .int .i64 k ∧ Hid (Turned w1 wr ∧ Below base w1 wr)) (fun i _ => n3 - (intOf i).toNat)
          case atStart => exact ⟨0, Nat.zero_le _, rfl, hT⟩
          case round =>
            clear hT
            obtain ⟨k, hk, rfl, hT⟩ := hrel
            obtain ⟨p0, p1, p2, _⟩ := cells3 (HBX.out wr hT.out.1)
            by_cases hlt : k < n3
            · have hlt' : (k : Int) < n3 := by omega
              obtain ⟨gw, av, cv, lv, rfl, hOv, HCV⟩ := H3.out k hlt
              have hlv : lv.length ≤ maxLen := hOv.rd.len_le
              unfold maxLen at hlv
              have HOV := hide hOv
              clear hOv
              generalize lv.length = m at *
              have hcv := HCV.out wr hT.out.1
              go_wp2
              obtain ⟨wk, ewk⟩ : ∃ wk, wk = wr := ⟨_, rfl⟩
              rw [← ewk]
              rw [← ewk] at hT
              clear ewk hcv p0 p1 p2
              go_loopw [6] (fun i wr => ∃ j : Nat, j ≤ m ∧ i = .int .i64 j ∧ Hid (Turned w1 wr ∧ Below base w1 wr)) (fun i _ => m - (intOf i).toNat)
              case atStart => exact ⟨0, Nat.zero_le _, rfl, hT⟩
              case round =>
                clear hT
                obtain ⟨j, hj, rfl, hT⟩ := hrel
                obtain ⟨p0, p1, p2, _⟩ := cells3 (HBX.out wr hT.out.1)
                have hcv := HCV.out wr hT.out.1
                by_cases hjt : j < m
                · have hjt' : (j : Int) < m := by omega
                  obtain ⟨g, bk, bj, rfl, hc, hf, hw8, HN⟩ := turn_step HOV.out hT.out.1 hT.out.2 j hjt
                  have hK : Keeps (fun wx => wx.cell? ⟨w.heap.size, 2, none⟩ = some (.slice (some ⟨gw, 0, none⟩) n3 c3) ∧ wx.cell? ⟨gw, k * 3 + 2, none⟩ = some (.slice (some ⟨g, 0, none⟩) m cv) ∧ wx.cell? ⟨g, j, none⟩ = some (.int .u8 bk)) := (keeps_cell _ _).and ((keeps_cell _ _).and (keeps_cell _ _))
                  go_wp2
                  refine regL_begin hK 20 (by kernel_rfl) ⟨p2, hcv, hc⟩ ?_
                  intro hS
                  refine regL_take (i := 0) (v := ?qcv0) rfl (by kernel_rfl) (by kernel_rfl) (by kernel_rfl) rfl (by kernel_rfl) (by kernel_rfl) (by rfl) ?qcy0 hS ?qcr0
                  case qcy0 => (rintro wx ⟨x0, x1, x2⟩; go_simp; all_goals (with_reducible rfl))
                  try simp only [Act.put, List.setIfInBounds_toArray, List.set_cons_zero, List.set_cons_succ]
                  refine regL_take (i := 1) (v := ?qcv1) rfl (by kernel_rfl) (by kernel_rfl) (by kernel_rfl) rfl (by kernel_rfl) (by kernel_rfl) (by rfl) ?qcy1 hS ?qcr1
                  case qcy1 => (rintro wx ⟨x0, x1, x2⟩; go_simp; all_goals (with_reducible rfl))
                  try simp only [Act.put, List.setIfInBounds_toArray, List.set_cons_zero, List.set_cons_succ]
                  refine regL_take (i := 2) (v := ?qcv2) rfl (by kernel_rfl) (by kernel_rfl) (by kernel_rfl) rfl (by kernel_rfl) (by kernel_rfl) (by rfl) ?qcy2 hS ?qcr2
                  case qcy2 => (rintro wx ⟨x0, x1, x2⟩; go_simp; all_goals (with_reducible rfl))
                  try simp only [Act.put, List.setIfInBounds_toArray, List.set_cons_zero, List.set_cons_succ]
                  refine regL_take (i := 3) (v := ?qcv3) rfl (by kernel_rfl) (by kernel_rfl) (by kernel_rfl) rfl (by kernel_rfl) (by kernel_rfl) (by rfl) ?qcy3 hS ?qcr3
                  case qcy3 => (rintro wx ⟨x0, x1, x2⟩; go_simp; all_goals (with_reducible rfl))
                  try simp only [Act.put, List.setIfInBounds_toArray, List.set_cons_zero, List.set_cons_succ]
                  refine regL_take (i := 4) (v := ?qcv4) rfl (by kernel_rfl) (by kernel_rfl) (by kernel_rfl) rfl (by kernel_rfl) (by kernel_rfl) (by rfl) ?qcy4 hS ?qcr4
                  case qcy4 => (rintro wx ⟨x0, x1, x2⟩; go_simp; all_goals (with_reducible rfl))
                  try simp only [Act.put, List.setIfInBounds_toArray, List.set_cons_zero, List.set_cons_succ]
                  refine regL_take (i := 5) (v := ?qcv5) rfl (by kernel_rfl) (by kernel_rfl) (by kernel_rfl) rfl (by kernel_rfl) (by kernel_rfl) (by rfl) ?qcy5 hS ?qcr5
                  case qcy5 => (rintro wx ⟨x0, x1, x2⟩; go_simp; all_goals (with_reducible rfl))
                  try simp only [Act.put, List.setIfInBounds_toArray, List.set_cons_zero, List.set_cons_succ]
                  refine regL_take (i := 6) (v := ?qcv6) rfl (by kernel_rfl) (by kernel_rfl) (by kernel_rfl) rfl (by kernel_rfl) (by kernel_rfl) (by rfl) ?qcy6 hS ?qcr6
                  case qcy6 => (rintro wx ⟨x0, x1, x2⟩; go_simp; all_goals (with_reducible rfl))
                  try simp only [Act.put, List.setIfInBounds_toArray, List.set_cons_zero, List.set_cons_succ]
                  refine regL_take (i := 7) (v := ?qcv7) rfl (by kernel_rfl) (by kernel_rfl) (by kernel_rfl) rfl (by kernel_rfl) (by kernel_rfl) (by rfl) ?qcy7 hS ?qcr7
                  case qcy7 => (rintro wx ⟨x0, x1, x2⟩; go_simp; all_goals (with_reducible rfl))
                  try simp only [Act.put, List.setIfInBounds_toArray, List.set_cons_zero, List.set_cons_succ]
                  refine regL_take (i := 8) (v := ?qcv8) rfl (by kernel_rfl) (by kernel_rfl) (by kernel_rfl) rfl (by kernel_rfl) (by kernel_rfl) (by rfl) ?qcy8 hS ?qcr8
                  case qcy8 => (rintro wx ⟨x0, x1, x2⟩; go_simp; all_goals (with_reducible rfl))
                  try simp only [Act.put, List.setIfInBounds_toArray, List.set_cons_zero, List.set_cons_succ]
                  refine regL_take (i := 9) (v := ?qcv9) rfl (by kernel_rfl) (by kernel_rfl) (by kernel_rfl) rfl (by kernel_rfl) (by kernel_rfl) (by rfl) ?qcy9 hS ?qcr9
                  case qcy9 => (rintro wx ⟨x0, x1, x2⟩; go_simp; all_goals (with_reducible rfl))
                  try simp only [Act.put, List.setIfInBounds_toArray, List.set_cons_zero, List.set_cons_succ]
                  refine regL_take (i := 10) (v := ?qcv10) rfl (by kernel_rfl) (by kernel_rfl) (by kernel_rfl) rfl (by kernel_rfl) (by kernel_rfl) (by rfl) ?qcy10 hS ?qcr10
                  case qcy10 => (rintro wx ⟨x0, x1, x2⟩; go_simp; all_goals (with_reducible rfl))
                  try simp only [Act.put, List.setIfInBounds_toArray, List.set_cons_zero, List.set_cons_succ]
                  refine regL_take (i := 11) (v := ?qcv11) rfl (by kernel_rfl) (by kernel_rfl) (by kernel_rfl) rfl (by kernel_rfl) (by kernel_rfl) (by rfl) ?qcy11 hS ?qcr11
                  case qcy11 => (rintro wx ⟨x0, x1, x2⟩; go_simp; all_goals (with_reducible rfl))
                  try simp only [Act.put, List.setIfInBounds_toArray, List.set_cons_zero, List.set_cons_succ]
                  refine regL_take (i := 12) (v := ?qcv12) rfl (by kernel_rfl) (by kernel_rfl) (by kernel_rfl) rfl (by kernel_rfl) (by kernel_rfl) (by rfl) ?qcy12 hS ?qcr12
                  case qcy12 => (rintro wx ⟨x0, x1, x2⟩; go_simp; all_goals (with_reducible rfl))
                  try simp only [Act.put, List.setIfInBounds_toArray, List.set_cons_zero, List.set_cons_succ]
                  refine regL_take (i := 13) (v := ?qcv13) rfl (by kernel_rfl) (by kernel_rfl) (by kernel_rfl) rfl (by kernel_rfl) (by kernel_rfl) (by rfl) ?qcy13 hS ?qcr13
                  case qcy13 => (rintro wx ⟨x0, x1, x2⟩; go_simp; all_goals (with_reducible rfl))
                  try simp only [Act.put, List.setIfInBounds_toArray, List.set_cons_zero, List.set_cons_succ]
                  refine regL_take (i := 14) (v := ?qcv14) rfl (by kernel_rfl) (by kernel_rfl) (by kernel_rfl) rfl (by kernel_rfl) (by kernel_rfl) (by rfl) ?qcy14 hS ?qcr14
                  case qcy14 => (rintro wx ⟨x0, x1, x2⟩; go_simp; all_goals (with_reducible rfl))
                  try simp only [Act.put, List.setIfInBounds_toArray, List.set_cons_zero, List.set_cons_succ]
                  refine regL_take (i := 15) (v := ?qcv15) rfl (by kernel_rfl) (by kernel_rfl) (by kernel_rfl) rfl (by kernel_rfl) (by kernel_rfl) (by rfl) ?qcy15 hS ?qcr15
                  case qcy15 => (rintro wx ⟨x0, x1, x2⟩; go_simp; all_goals (with_reducible rfl))
                  try simp only [Act.put, List.setIfInBounds_toArray, List.set_cons_zero, List.set_cons_succ]
                  refine regL_take (i := 16) (v := ?qcv16) rfl (by kernel_rfl) (by kernel_rfl) (by kernel_rfl) rfl (by kernel_rfl) (by kernel_rfl) (by rfl) ?qcy16 hS ?qcr16
                  case qcy16 => (rintro wx ⟨x0, x1, x2⟩; go_simp; all_goals (with_reducible rfl))
                  try simp only [Act.put, List.setIfInBounds_toArray, List.set_cons_zero, List.set_cons_succ]
                  refine regL_take (i := 17) (v := ?qcv17) rfl (by kernel_rfl) (by kernel_rfl) (by kernel_rfl) rfl (by kernel_rfl) (by kernel_rfl) (by rfl) ?qcy17 hS ?qcr17
                  case qcy17 => (rintro wx ⟨x0, x1, x2⟩; go_simp; all_goals (with_reducible rfl))
                  try simp only [Act.put, List.setIfInBounds_toArray, List.set_cons_zero, List.set_cons_succ]
                  refine regL_take (i := 18) (v := ?qcv18) rfl (by kernel_rfl) (by kernel_rfl) (by kernel_rfl) rfl (by kernel_rfl) (by kernel_rfl) (by rfl) ?qcy18 hS ?qcr18
                  case qcy18 => (rintro wx ⟨x0, x1, x2⟩; go_simp; all_goals (with_reducible rfl))
                  try simp only [Act.put, List.setIfInBounds_toArray, List.set_cons_zero, List.set_cons_succ]
                  refine regL_take (i := 19) (v := ?qcv19) rfl (by kernel_rfl) (by kernel_rfl) (by kernel_rfl) rfl (by kernel_rfl) (by kernel_rfl) (by rfl) ?qcy19 hS ?qcr19
                  case qcy19 => (rintro wx ⟨x0, x1, x2⟩; go_simp; all_goals (with_reducible rfl))
                  try simp only [Act.put, List.setIfInBounds_toArray, List.set_cons_zero, List.set_cons_succ]
                  refine regL_last (i := 20) (w' := wr.drew.setCell ⟨g, j, none⟩ (.int .u8 bj)) rfl (by kernel_rfl) (by kernel_rfl) (by rfl) (by go_simp) ?_
                  try simp only [Act.put, List.setIfInBounds_toArray, List.set_cons_zero, List.set_cons_succ]
                  refine wpAnyL_done (by kernel_rfl) ?_ _
                  refine NoPanic.normal ?_
                  go_wp2
                  go_roundw
                  case rel => exact ⟨j + 1, by omega, by go_num, HN.out⟩
                  case measure => simp [intOf] <;> omega
                · have hjt' : decide ((j : Int) < m) = false := by simpa using (by omega : ¬ (j : Int) < m)
                  go_wp2
                  go_roundw
                  case rel => exact ⟨k + 1, by omega, by go_num, hT⟩
                  case measure => simp [intOf] <;> omega
            · have hlt' : decide ((k : Int) < n3) = false := by simpa using (by omega : ¬ (k : Int) < n3)
              go_wp2
              refine bodyPost_end (v := .tuple #[]) (by simp [results, Try.results33, go_sem]) rfl ?_
              exact ⟨rfl, HBW.out.trans hT.out.2, HTW.out.trans hT.out.1⟩

end Go.Proofs.Ytmcgkhjhdickoaa
