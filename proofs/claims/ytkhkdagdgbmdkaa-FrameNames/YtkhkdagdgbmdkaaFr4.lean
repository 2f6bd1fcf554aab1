/-
  What frame's Frame does: a record's blocks.
-/
import Derived.Test.YtkhkdagdgbmdkaaFr3
namespace Go.Proofs.Ytkhkdagdgbmdkaa
open Go.RowKit
set_option linter.unusedVariables false
set_option linter.unusedSimpArgs false

/-- A row of blocks of one's own, the first j of which are laid. -/
def PrtF (w : World) (base g N : Nat) (l : List (List UInt8)) (j : Nat) : Prop :=
  ∃ vs : List Value, vs.length = N ∧ w.ownsRow base 25 1 (.slice (some ⟨g, 0, none⟩) N N) N vs ∧ ∀ i, (h : i < l.length) → i < j → ∃ v, vs[i]? = some v ∧ OwB w base v l[i]
theorem makeF (w : World) (N : Nat) (hN : N ≤ 1000) : ∃ w2, (Instr.makeSlice 22 (.int .i64 N) (.int .i64 N)).run Try.prog w = .ok (.slice (some ⟨w.heap.size, 0, none⟩) N N) w2 ∧ (∀ l, PrtF w2 w.heap.size w.heap.size N l 0) ∧ Below w.heap.size w w2 := by
  obtain ⟨i0, hi, hz0, hz1, hz2⟩ := info_parts Try.infoSl8
  obtain ⟨w2, hmake, hown2, hg2⟩ := run_make_full (P := Try.prog) w w.heap.size 22 25 i0 _ 1 Try.underlying22 hi hz0 hz1 .i64 .i64 N (by rw [hz2]; omega) (by unfold maxLen; omega) (Nat.le_refl _)
  refine ⟨w2, hmake, fun l => ⟨_, ?_, hown2, fun i h hi => by omega⟩, (Below.refl _ _).grown hg2 (Nat.le_refl _) (fun k hk => by cases hk)⟩
  have e : (madeCells (Value.slice none 0 0).cells (N * 1)).toList = List.replicate (N * 1) (.slice none 0 0) := by
    show (madeCells #[Value.slice none 0 0] (N * 1)).toList = _
    rw [toList_madeCells_one]
  rw [e, List.length_replicate]; omega
theorem PrtF.carry {w w' : World} {base g N j : Nat} {l : List (List UInt8)} (h : PrtF w base g N l j) (hb : Below w.heap.size w w') : PrtF w' base g N l j := by
  obtain ⟨vs, h1, h2, h3⟩ := h
  refine ⟨vs, h1, own_carry h2 hb, fun i h hi => ?_⟩
  obtain ⟨v, e, ho⟩ := h3 i h hi
  exact ⟨v, e, ho.carry hb⟩
theorem PrtF.mono {w : World} {base base' g N j : Nat} {l : List (List UInt8)} (h : PrtF w base g N l j) (hb : base' ≤ base) : PrtF w base' g N l j := by
  obtain ⟨vs, h1, h2, h3⟩ := h
  refine ⟨vs, h1, own_mono h2 hb, fun i h hi => ?_⟩
  obtain ⟨v, e, ho⟩ := h3 i h hi
  exact ⟨v, e, ho.mono hb⟩
theorem PrtF.set {w : World} {base g N j : Nat} {l : List (List UInt8)} (h : PrtF w base g N l j) (hj : j < N) (hl : j < l.length) {v : Value} (hv : OwB w base v l[j]) :
    (∃ u, w.cell? ⟨g, j, none⟩ = some u) ∧ w.frozen? ⟨g, j, none⟩ = false ∧ PrtF (w.setCell ⟨g, j, none⟩ v) base g N l (j + 1) ∧ Below base w (w.setCell ⟨g, j, none⟩ v) := by
  obtain ⟨vs, h1, h2, h3⟩ := h
  obtain ⟨s1, s2⟩ := World.ownsRow.stored h2 j v
  have hg := (h2.lt g rfl).1
  have hcell := h2.cells (g := g) rfl j (vs[j]'(by omega)) (List.getElem?_eq_getElem (by omega))
  rw [Addr.add_lit] at hcell
  have hbg : base ≤ g := hg
  refine ⟨⟨_, by simpa using hcell⟩, ?_, ⟨vs.set j v, by simpa using h1, s1, fun i h hi => ?_⟩, ?_⟩
  · rcases h2.2 with ⟨e, _⟩ | ⟨g', cap, cur, e, _, hgg, _⟩
    · cases e
    · cases e
      exact frozen_of_row w _ j _ _ hgg
  · by_cases e : i = j
    · subst e
      exact ⟨v, by rw [List.getElem?_set_self (by omega)], own_kept2 hv h2 (by decide) s2⟩
    · obtain ⟨u, e1, ho⟩ := h3 i h (by omega)
      exact ⟨u, by rw [List.getElem?_set_ne (by omega)]; exact e1, own_kept2 ho h2 (by decide) s2⟩
  · exact ⟨s2.os, s2.tape, s2.output, s2.size, fun k hk => s2.block k (by have := World.block_lt_of_cell? w _ (by simpa using hcell); have h7 : g < w.heap.size := this; omega) (by intro e; cases e; omega)⟩
theorem PrtF.all {w : World} {base g N j : Nat} {l : List (List UInt8)} (h : PrtF w base g N l j) (hl : l.length = N) (hj : N ≤ j) : OwBB w base (.slice (some ⟨g, 0, none⟩) N N) l := by
  obtain ⟨vs, h1, h2, h3⟩ := h
  refine ⟨l.zip vs, ?_, ?_, ?_⟩
  · rw [List.map_fst_zip]; omega
  · rw [List.map_snd_zip (by omega), hl]; exact h2
  · intro p hp
    obtain ⟨i, hi, e⟩ := List.mem_iff_getElem.1 hp
    rw [List.length_zip] at hi
    obtain ⟨v, e1, ho⟩ := h3 i (by omega) (by omega)
    rw [List.getElem_zip] at e
    rw [← e]
    rw [List.getElem?_eq_getElem (by omega)] at e1
    cases e1
    exact ho

theorem frmL_0 {h : Hd} {r : List UInt8} (e : frmE h r = 0) : frmL h r = rowB h r := by unfold frmL; rw [if_pos e]
theorem frmL_no {h : Hd} {r : List UInt8} (e : frmE h r ≠ 0) : frmL h r = [] := by unfold frmL; rw [if_neg e]
theorem rowB_at (h : Hd) (r : List UInt8) (j : Nat) (hj : j < needN r.length) : (rowB h r)[j]'(by rw [rowB_len]; exact hj) = fillB h j (needN r.length) (r.drop (107 * j)) := rowB_get h r j (by rw [rowB_len]; exact hj)
theorem rd_cutF {w : World} {a : Option Addr} {n c : Nat} {l : List UInt8} (h : Rd w (.slice a n c) l) (hn : n = l.length) (k : Nat) (hk : k ≤ n) : (n ≤ c) ∧ ((c = k ∧ k = n ∧ Rd w (.slice a 0 0) []) ∨ (∃ b off, a = some ⟨b, off, none⟩ ∧ ¬ c = k ∧ Rd w (.slice (some ⟨b, off + k, none⟩) (n - k) (c - k)) (l.drop k)) ∨ (∃ ad, a = some ad ∧ n = 0 ∧ k = 0 ∧ ¬ c = k)) := by
  subst hn
  rcases h with ⟨rfl, h | ⟨ad, c', h⟩⟩ | ⟨b, off, c', h, h1, h2, h3⟩
  · simp only [Value.slice.injEq] at h
    obtain ⟨rfl, -, rfl⟩ := h
    exact ⟨Nat.le_refl _, .inl ⟨(Nat.le_zero.1 hk).symm, Nat.le_zero.1 hk, .inl ⟨rfl, .inl rfl⟩⟩⟩
  · simp only [Value.slice.injEq] at h
    obtain ⟨rfl, -, rfl⟩ := h
    obtain rfl : k = 0 := Nat.le_zero.1 hk
    refine ⟨Nat.zero_le _, ?_⟩
    by_cases hc : c = 0
    · exact .inl ⟨hc, rfl, .inl ⟨rfl, .inr ⟨_, _, rfl⟩⟩⟩
    · exact .inr (.inr ⟨_, rfl, rfl, rfl, hc⟩)
  · simp only [Value.slice.injEq] at h
    obtain ⟨rfl, -, rfl⟩ := h
    refine ⟨h1, ?_⟩
    by_cases hc : c = k
    · exact .inl ⟨hc, by omega, .inl ⟨rfl, .inr ⟨_, _, rfl⟩⟩⟩
    · refine .inr (.inl ⟨b, off, rfl, hc, ?_⟩)
      by_cases hkl : k = l.length
      · subst hkl
        rw [List.drop_length, Nat.sub_self]
        exact .inl ⟨rfl, .inr ⟨_, _, rfl⟩⟩
      · refine .inr ⟨b, off + k, c - k, by rw [List.length_drop], by rw [List.length_drop]; omega, by omega, fun j hj => ?_⟩
        rw [List.length_drop] at hj
        have := h3 (k + j) (by omega)
        rw [Nat.add_assoc, this, List.getElem_drop]

set_option maxHeartbeats 2000000 in
set_option maxRecDepth 100000 in
theorem frame_any (h : Hd) (a0 : Option Addr) (n0 c0 : Nat) (r : List UInt8) (w : World) (hh : okH h) (hn : n0 = r.length) (hrd : Rd w (.slice a0 n0 c0) r) :
    Calls Try.prog 12 #[.int .u32 h.1, .int .u32 h.2.1, .int .u32 h.2.2.1, .int .u32 h.2.2.2, .slice a0 n0 c0] w fun e w' => ∃ v, e = .returned (.tuple #[v, .int .i64 (frmE h r)]) ∧ OwBB w' w.heap.size v (frmL h r) ∧ Below w.heap.size w w' := by
  obtain ⟨x0, x1, x2, x3⟩ := h
  by_cases e0 : x0 = 0
  · have HE := hide (show frmE (x0, x1, x2, x3) r = 2 by unfold frmE; rw [if_pos (.inl e0)])
    have HL := hide (frmL_no (show frmE (x0, x1, x2, x3) r ≠ 0 by rw [HE.out]; decide))
    have h0 : ((x0 : Int) == 0) = true := by simpa using (by omega : (x0 : Int) = 0)
    clear e0 hrd hh
    go_enter Try.func12, Try.ntmps12
    go_wp2
    go_ret2
    rw [HL.out, HE.out]
    exact ⟨_, rfl, OwBB.nil _ _, Below.refl _ _⟩
  · have h0 : ((x0 : Int) == 0) = false := by simpa using (by omega : ¬ (x0 : Int) = 0)
    by_cases e1 : x1 = 0
    · have HE := hide (show frmE (x0, x1, x2, x3) r = 2 by unfold frmE; rw [if_pos (.inr e1)])
      have HL := hide (frmL_no (show frmE (x0, x1, x2, x3) r ≠ 0 by rw [HE.out]; decide))
      have h1 : ((x1 : Int) == 0) = true := by simpa using (by omega : (x1 : Int) = 0)
      clear e0 e1 hrd hh
      go_enter Try.func12, Try.ntmps12
      go_wp2
      go_ret2
      rw [HL.out, HE.out]
      exact ⟨_, rfl, OwBB.nil _ _, Below.refl _ _⟩
    · have h1 : ((x1 : Int) == 0) = false := by simpa using (by omega : ¬ (x1 : Int) = 0)
      by_cases e2 : 16384 < n0
      · have HE := hide (show frmE (x0, x1, x2, x3) r = 3 by unfold frmE; rw [if_neg (by rintro (e | e); exact e0 e; exact e1 e), if_pos (by omega)])
        have HL := hide (frmL_no (show frmE (x0, x1, x2, x3) r ≠ 0 by rw [HE.out]; decide))
        have h2 : (16384 : Int) < n0 := by omega
        clear e0 e1 e2 hrd hh hn
        go_enter Try.func12, Try.ntmps12
        go_wp2
        go_ret2
        rw [HL.out, HE.out]
        exact ⟨_, rfl, OwBB.nil _ _, Below.refl _ _⟩
      · have HE := hide (frmE_of (h := (x0, x1, x2, x3)) (r := r) e0 e1 (by omega))
        have HL := hide (frmL_0 HE.out)
        have h2 : decide ((16384 : Int) < n0) = false := by simpa using (by omega : ¬ (16384 : Int) < n0)
        have HH := hide hh
        have HR := hide hrd
        have HN := hide hn
        obtain ⟨N, hNe⟩ : ∃ N, N = needN r.length := ⟨_, rfl⟩
        have HNE := hide hNe
        have hN1 : N ≤ 154 := by rw [hNe]; exact needN_le _ (by omega)
        have hN0 : 1 ≤ N := by rw [hNe]; exact needN_pos _
        have hNb : n0 ≤ 107 * N := by rw [hNe, hn]; unfold needN; omega
        have hNc : ∀ j, j + 1 < N → 107 * (j + 1) ≤ n0 := by intro j hj; rw [hNe] at hj; rw [hn]; unfold needN at hj; omega
        have HNB := hide hNb
        have HNC := hide hNc
        have HRL := hide (rowB_len (x0, x1, x2, x3) r)
        rw [← hNe] at HRL
        clear e0 e1 e2 hrd hh hn hNe hNb hNc
        obtain ⟨w1, hmk, hP0, hb1⟩ := makeF w N (by omega)
        have HP0 := hide hP0
        have hn0 : n0 ≤ 1000000 := by have := HNB.out; omega
        clear hP0
        go_enter Try.func12, Try.ntmps12
        go_wp2_with fail
        refine (needed_any n0 _ hn0).mono ?_
        rintro e wx ⟨rfl, rfl⟩
        rw [HN.out, ← HNE.out]
        have hwm : wx.heap.size < w1.heap.size := by
          obtain ⟨vs, _, ho, _⟩ := HP0.out []
          exact (ho.lt _ rfl).2
        go_wp2
        clear hmk h0 h1 h2
        go_loopw [13, 33] (fun rs i wr => ∃ (j n c : Nat) (a : Option Addr), j ≤ N ∧ i = .int .i64 j ∧ rs = .slice a n c ∧ Hid (n = (r.drop (107 * j)).length ∧ Rd wx (.slice a n c) (r.drop (107 * j))) ∧ Hid (PrtF wr wx.heap.size wx.heap.size N (rowB (x0, x1, x2, x3) r) j) ∧ Below wx.heap.size wx wr) (fun _ i _ => N - (intOf i).toNat)
        case atStart => exact ⟨0, n0, c0, a0, Nat.zero_le _, rfl, by rw [HN.out], hide ⟨by simpa using HN.out, by simpa using HR.out⟩, hide (HP0.out _), hb1⟩
        case round =>
          obtain ⟨j, n, c, a, hj, rfl, rfl, hrs, hpt, hbel⟩ := hrel
          by_cases hlt : j < N
          · have hlt' : (j : Int) < N := by omega
            clear hb1
            go_wp2_with fail
            refine (filled_any (x0, x1, x2, x3) j N (.slice a n c) (r.drop (107 * j)) _ HH.out (by omega) (by omega) (hrs.out.2.carry hbel)).mono ?_
            rintro e w3 ⟨cb, rfl, hO3, hb3⟩
            obtain ⟨q, hq⟩ : ∃ q, q = min (r.drop (107 * j)).length 107 := ⟨_, rfl⟩
            rw [← hq]
            have hqn : q ≤ n := by rw [hrs.out.1]; omega
            have HQ := hide (show (r.drop (107 * j)).drop q = r.drop (107 * (j + 1)) by
              rw [List.drop_drop]
              by_cases h107 : 107 ≤ (r.drop (107 * j)).length
              · rw [hq, Nat.min_eq_right h107]; congr 1
              · have hl := h107
                rw [List.length_drop] at hl
                rw [List.drop_of_length_le (by rw [hq, List.length_drop]; omega), List.drop_of_length_le (by omega)])
            have hB3 : Below wx.heap.size wx w3 := hbel.trans (hb3.mono hbel.size)
            have hO3' : OwB w3 wx.heap.size (.slice (some ⟨wr.heap.size + 1, 0, none⟩) 128 cb) ((rowB (x0, x1, x2, x3) r)[j]'(by rw [HRL.out]; exact hlt)) := by
              rw [rowB_at _ _ _ (by rw [← HNE.out]; exact hlt), ← HNE.out]
              exact hO3.mono hbel.size
            obtain ⟨⟨u, hu⟩, hfz, hP3, hb4⟩ := (hpt.out.carry hb3).set hlt (by rw [HRL.out]; exact hlt) hO3'
            have HP3 := hide hP3
            have HB4 := hide (hB3.trans hb4)
            obtain ⟨hnc, hcut⟩ := rd_cutF hrs.out.2 hrs.out.1 q hqn
            have hqi : (q : Int) ≤ n := by omega
            have HNR := hide hrs.out.1
            clear hO3 hO3' hb3 hpt hrs hP3 hb4 hq
            rcases hcut with ⟨rfl, rfl, hR⟩ | ⟨b, off, rfl, hcq, hR⟩ | ⟨ad, rfl, rfl, rfl, hcq⟩
            · have HRR := hide hR
              clear hR
              go_wp2
              go_region
              go_wp2
              go_roundw
              case rel => exact ⟨j + 1, 0, 0, a, by omega, rfl, rfl, hide ⟨by rw [← HQ.out, List.length_drop, ← HNR.out, Nat.sub_self], by rw [← HQ.out, List.drop_of_length_le (by rw [← HNR.out]; exact Nat.le_refl _)]; exact HRR.out⟩, hide (HP3.out.carry (Below.refl _ _).drew), HB4.out.drew⟩
              case measure => simp only [intOf]; omega
            · have HRR := hide hR
              clear hR
              go_wp2
              go_region
              go_wp2
              go_roundw
              case rel => exact ⟨j + 1, n - q, c - q, some ⟨b, off + q, none⟩, by omega, rfl, rfl, hide ⟨by rw [← HQ.out, List.length_drop, ← HNR.out], by rw [← HQ.out]; exact HRR.out⟩, hide (HP3.out.carry (Below.refl _ _).drew), HB4.out.drew⟩
              case measure => simp only [intOf]; omega
            · go_wp2
              go_region
              go_wp2
              go_roundw
              case rel => exact ⟨j + 1, 0, c, _, by omega, rfl, rfl, hide ⟨by rw [← HQ.out, List.length_drop, ← HNR.out], by rw [← HQ.out, List.drop_of_length_le (by rw [← HNR.out]; exact Nat.le_refl _)]; exact .inl ⟨rfl, .inr ⟨_, _, rfl⟩⟩⟩, hide (HP3.out.carry (Below.refl _ _).drew), HB4.out.drew⟩
              case measure => simp only [intOf]; omega
          · have hd : decide ((j : Int) < N) = false := by simpa using (by omega : ¬ (j : Int) < N)
            have HO := hide (hpt.out.all HRL.out (by omega))
            clear hpt hrs
            go_wp2
            go_ret2
            rw [HL.out, HE.out]
            exact ⟨_, rfl, HO.out, hbel⟩

end Go.Proofs.Ytkhkdagdgbmdkaa
