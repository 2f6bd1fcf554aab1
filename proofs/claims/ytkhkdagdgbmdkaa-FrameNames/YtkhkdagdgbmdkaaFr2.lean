/-
  What frame's count, part and begun do.
-/
import Derived.Test.YtkhkdagdgbmdkaaFr1
namespace Go.Proofs.Ytkhkdagdgbmdkaa
open Go.RowKit
set_option linter.unusedVariables false
set_option linter.unusedSimpArgs false

set_option maxHeartbeats 1000000 in
set_option maxRecDepth 100000 in
theorem count_fr (g off c : Nat) (b : List UInt8) (w : World) (hrd : Rd w (.slice (some ⟨g, off, none⟩) 128 c) b) (hb : b.length = 128) :
    Calls Try.prog 24 #[.slice (some ⟨g, off, none⟩) 128 c] w fun e w' => e = .returned (.int .i64 (cntF b)) ∧ w' = w := by
  obtain ⟨_, _, e, -, hnc, hr⟩ := rd_sub hrd 18 20 (by omega) (by omega)
  cases e
  have HR := hide hr
  have HL := hide (show ((b.drop 18).take 2).length = 2 by rw [List.length_take, List.length_drop]; omega)
  obtain ⟨u, hu⟩ : ∃ u, u = cntF b := ⟨_, rfl⟩
  have hlt : u < 65536 := by rw [hu]; exact cntF_lt b
  have HC := hide (show un4 ((b.drop 18).take 2) = u from hu.symm)
  rw [← hu]
  have hw : IntKind.i64.wrap (u : Int) = u := by rw [IntKind.wrap_i64]; omega
  clear hrd hr hu
  have h2 : ¬ 18 = c := by omega
  have h3 : (20 : Int) ≤ c := by omega
  have h4 : 20 ≤ c := by omega
  go_enter Try.func24, Try.ntmps24
  go_wp2_with fail
  refine (fread_any (some ⟨g, off + 18, none⟩) 2 (c - 18) _ _ HR.out HL.out.symm (by rw [HL.out]; omega)).mono ?_
  rintro e w1 ⟨rfl, rfl⟩
  rw [HC.out]
  go_wp2
  go_ret
  exact ⟨rfl, rfl⟩

theorem rd_frontF {w : World} {g off n c : Nat} {l : List UInt8} (h : Rd w (.slice (some ⟨g, off, none⟩) n c) l) (k m : Nat) (hk : k + m ≤ l.length) (hl : k < l.length) : Rd w (.slice (some ⟨g, off + k, none⟩) m (c - k)) ((l.drop k).take m) := by
  rcases h with ⟨rfl, _⟩ | ⟨b, o, c', e, h1, h2, h3⟩
  · simp at hl
  · simp only [Value.slice.injEq, Option.some.injEq, Addr.mk.injEq] at e
    obtain ⟨⟨rfl, rfl, -⟩, rfl, rfl⟩ := e
    have hml : ((l.drop k).take m).length = m := by rw [List.length_take, List.length_drop]; omega
    refine .inr ⟨g, off + k, c - k, by rw [hml], by omega, by omega, fun j hj => ?_⟩
    rw [hml] at hj
    have := h3 (k + j) (by omega)
    rw [Nat.add_assoc, this, List.getElem_take, List.getElem_drop]

set_option maxHeartbeats 1000000 in
set_option maxRecDepth 100000 in
theorem part_fr (g off c : Nat) (b : List UInt8) (w : World) (hrd : Rd w (.slice (some ⟨g, off, none⟩) 128 c) b) (hb : b.length = 128) :
    Calls Try.prog 25 #[.slice (some ⟨g, off, none⟩) 128 c] w fun e w' => e = .returned (.slice (some ⟨g, off + 21, none⟩) (min (sizB b) 107) (c - 21)) ∧ Below w.heap.size w w' := by
  obtain ⟨_, _, e, -, hnc, hr⟩ := rd_sub hrd 21 128 (by omega) (by omega)
  cases e
  obtain ⟨_, _, e, hc⟩ := rd_cell hrd 20 (by omega)
  cases e
  have hy : (b[20]'(by omega)).toNat = sizB b := by unfold sizB; rw [List.getD, List.getElem?_eq_getElem (by omega)]; rfl
  rw [hy] at hc
  have hs : sizB b < 256 := by rw [← hy]; exact UInt8.toNat_lt _
  generalize sizB b = s at *
  clear hrd hr hy hb
  have h2 : ¬ 21 = c := by omega
  have h3 : (128 : Int) ≤ c := by omega
  have h4 : 128 ≤ c := by omega
  have hw : IntKind.i64.wrap (s : Int) = s := by rw [IntKind.wrap_i64]; omega
  by_cases hl : s ≤ 107
  · rw [Nat.min_eq_left (by omega)]
    have hl2 : s ≤ c - 21 := by omega
    have hl3 : ¬ 107 < (s : Int) := by omega
    go_enter Try.func25, Try.ntmps25
    go_wp2
    go_quiet (fail)
    go_wp2
    go_ret
    exact ⟨rfl, below_drewN (Below.refl _ _) _⟩
  · rw [Nat.min_eq_right (by omega)]
    have hl1 : 107 < (s : Int) := by omega
    have hl2 : 107 ≤ c - 21 := by omega
    go_enter Try.func25, Try.ntmps25
    go_wp2
    go_quiet (fail)
    go_wp2
    go_ret
    exact ⟨rfl, below_drewN (Below.refl _ _) _⟩

def begV (b : List UInt8) : Value := .agg #[.int .u32 (genF b), .int .u32 (numB b), .int .u32 (saltB b), .int .u32 (prevB b)]
def begC (b : List UInt8) (j : Nat) : Array Value := #[.int .u32 (if 0 < j then (genF b : Int) else 0), .int .u32 (if 1 < j then (numB b : Int) else 0), .int .u32 (if 2 < j then (saltB b : Int) else 0), .int .u32 (if 3 < j then (prevB b : Int) else 0)]
theorem beg_cells {w : World} {B : Nat} {t : TypeId} {x0 x1 x2 x3 : Value} (h : w.heap[B]? = some (.cells #[x0, x1, x2, x3] t (0, 0))) : w.cell? ⟨B, 0, none⟩ = some x0 ∧ w.cell? ⟨B, 1, none⟩ = some x1 ∧ w.cell? ⟨B, 2, none⟩ = some x2 ∧ w.cell? ⟨B, 3, none⟩ = some x3 ∧ ∀ j, w.frozen? ⟨B, j, none⟩ = false :=
  ⟨by simp [World.cell?, h], by simp [World.cell?, h], by simp [World.cell?, h], by simp [World.cell?, h], fun j => frozen_of_row w _ j _ _ h⟩

theorem stored4F {w : World} {B : Nat} {t : TypeId} {y1 y2 y3 y4 : Value} (u1 u2 u3 u4 : Value) (h : w.heap[B]? = some (.cells #[y1, y2, y3, y4] t (0, 0))) :
    ∃ ws, (((w.setCell ⟨B, 0, none⟩ u1).setCell ⟨B, 1, none⟩ u2).setCell ⟨B, 2, none⟩ u3).setCell ⟨B, 3, none⟩ u4 = ws ∧ ws.heap[B]? = some (.cells #[u1, u2, u3, u4] t (0, 0)) ∧ w.grownBy ws (some B) :=
  ⟨_, rfl, heap_setCell_same _ _ 3 _ _ _ (heap_setCell_same _ _ 2 _ _ _ (heap_setCell_same _ _ 1 _ _ _ (heap_setCell_same _ _ 0 _ _ _ h))), grown_trans (grown_trans (grown_trans (grown_setCell w _ _) (grown_setCell _ _ _)) (grown_setCell _ _ _)) (grown_setCell _ _ _)⟩

set_option maxHeartbeats 2000000 in
set_option maxRecDepth 100000 in
theorem begun_any (g off c : Nat) (b : List UInt8) (w : World) (hrd : Rd w (.slice (some ⟨g, off, none⟩) 128 c) b) (hb : b.length = 128) :
    Calls Try.prog 23 #[.slice (some ⟨g, off, none⟩) 128 c] w fun e w' => e = .returned (begV b) ∧ Below w.heap.size w w' := by
  obtain ⟨_, _, e, -, hnc, -⟩ := rd_sub hrd 0 128 (by omega) (by omega)
  cases e
  have HR := hide hrd
  have HB := hide hb
  clear hrd hb
  go_enter Try.func23, Try.ntmps23
  go_wp2
  go_loopw [4] (fun i wr => ∃ j : Nat, j ≤ 4 ∧ i = .int .i64 j ∧ Hid (wr.heap[w.heap.size]? = some (.cells (begC b j) 54 (0, 0))) ∧ Below w.heap.size w wr) (fun i _ => 4 - (intOf i).toNat)
  case atStart => exact ⟨0, Nat.zero_le _, rfl, hide (heap_alloc_new w _), (Below.refl _ _).alloc (Nat.le_refl _) _⟩
  case round =>
    obtain ⟨j, hj, rfl, hcs, hbel⟩ := hrel
    by_cases hlt : j < 4
    · obtain rfl | rfl | rfl | rfl : j = 0 ∨ j = 1 ∨ j = 2 ∨ j = 3 := by omega
      · have hsub : Rd wr (.slice (some ⟨g, off + 0, none⟩) 4 (c - 0)) ((b.drop 0).take 4) := rd_frontF (HR.out.carry hbel) 0 4 (by rw [HB.out]; omega) (by rw [HB.out]; omega)
        have HS := hide hsub
        have HL := hide (show ((b.drop 0).take 4).length = 4 by rw [List.length_take, List.length_drop, HB.out]; rfl)
        obtain ⟨q0, q1, q2, q3, qf⟩ := beg_cells hcs.out
        have hfz := qf 0
        have hst := heap_setCell_same wr w.heap.size 0 _ _ (.int .u32 (genF b)) hcs.out
        have HST := hide (show (wr.setCell ⟨w.heap.size, 0, none⟩ (.int .u32 (genF b))).heap[w.heap.size]? = some (.cells (begC b 1) 54 (0, 0)) from hst)
        have HBL := hide (show Below w.heap.size w (wr.setCell ⟨w.heap.size, 0, none⟩ (.int .u32 (genF b))) from hbel.grown (grown_setCell wr _ _) hbel.size (fun k hk => by cases hk; exact Nat.le_refl _))
        have HE := hide (show un4 ((b.drop 0).take 4) = genF b from rfl)
        have hc0 : ¬ 0 = c := by omega
        have hc1 : 0 ≤ c := by omega
        have hc2 : 4 ≤ c - 0 := by omega
        clear hsub hst hcs hbel hlt hj
        go_wp2_with fail
        refine (fread_any (some ⟨g, off + 0, none⟩) 4 (c - 0) _ _ HS.out HL.out.symm (by rw [HL.out]; omega)).mono ?_
        rintro e w1 ⟨rfl, rfl⟩
        rw [HE.out]
        go_wp2
        go_roundw
        case rel => exact ⟨1, by omega, rfl, HST, HBL.out⟩
        case measure => simp only [intOf]; omega
      · have hsub : Rd wr (.slice (some ⟨g, off + 4, none⟩) 4 (c - 4)) ((b.drop 4).take 4) := rd_frontF (HR.out.carry hbel) 4 4 (by rw [HB.out]; omega) (by rw [HB.out]; omega)
        have HS := hide hsub
        have HL := hide (show ((b.drop 4).take 4).length = 4 by rw [List.length_take, List.length_drop, HB.out]; rfl)
        obtain ⟨q0, q1, q2, q3, qf⟩ := beg_cells hcs.out
        have hfz := qf 1
        have hst := heap_setCell_same wr w.heap.size 1 _ _ (.int .u32 (numB b)) hcs.out
        have HST := hide (show (wr.setCell ⟨w.heap.size, 1, none⟩ (.int .u32 (numB b))).heap[w.heap.size]? = some (.cells (begC b 2) 54 (0, 0)) from hst)
        have HBL := hide (show Below w.heap.size w (wr.setCell ⟨w.heap.size, 1, none⟩ (.int .u32 (numB b))) from hbel.grown (grown_setCell wr _ _) hbel.size (fun k hk => by cases hk; exact Nat.le_refl _))
        have HE := hide (show un4 ((b.drop 4).take 4) = numB b from rfl)
        have hc0 : ¬ 4 = c := by omega
        have hc1 : 4 ≤ c := by omega
        have hc2 : 4 ≤ c - 4 := by omega
        clear hsub hst hcs hbel hlt hj
        go_wp2_with fail
        refine (fread_any (some ⟨g, off + 4, none⟩) 4 (c - 4) _ _ HS.out HL.out.symm (by rw [HL.out]; omega)).mono ?_
        rintro e w1 ⟨rfl, rfl⟩
        rw [HE.out]
        go_wp2
        go_roundw
        case rel => exact ⟨2, by omega, rfl, HST, HBL.out⟩
        case measure => simp only [intOf]; omega
      · have hsub : Rd wr (.slice (some ⟨g, off + 8, none⟩) 4 (c - 8)) ((b.drop 8).take 4) := rd_frontF (HR.out.carry hbel) 8 4 (by rw [HB.out]; omega) (by rw [HB.out]; omega)
        have HS := hide hsub
        have HL := hide (show ((b.drop 8).take 4).length = 4 by rw [List.length_take, List.length_drop, HB.out]; rfl)
        obtain ⟨q0, q1, q2, q3, qf⟩ := beg_cells hcs.out
        have hfz := qf 2
        have hst := heap_setCell_same wr w.heap.size 2 _ _ (.int .u32 (saltB b)) hcs.out
        have HST := hide (show (wr.setCell ⟨w.heap.size, 2, none⟩ (.int .u32 (saltB b))).heap[w.heap.size]? = some (.cells (begC b 3) 54 (0, 0)) from hst)
        have HBL := hide (show Below w.heap.size w (wr.setCell ⟨w.heap.size, 2, none⟩ (.int .u32 (saltB b))) from hbel.grown (grown_setCell wr _ _) hbel.size (fun k hk => by cases hk; exact Nat.le_refl _))
        have HE := hide (show un4 ((b.drop 8).take 4) = saltB b from rfl)
        have hc0 : ¬ 8 = c := by omega
        have hc1 : 8 ≤ c := by omega
        have hc2 : 4 ≤ c - 8 := by omega
        clear hsub hst hcs hbel hlt hj
        go_wp2_with fail
        refine (fread_any (some ⟨g, off + 8, none⟩) 4 (c - 8) _ _ HS.out HL.out.symm (by rw [HL.out]; omega)).mono ?_
        rintro e w1 ⟨rfl, rfl⟩
        rw [HE.out]
        go_wp2
        go_roundw
        case rel => exact ⟨3, by omega, rfl, HST, HBL.out⟩
        case measure => simp only [intOf]; omega
      · have hsub : Rd wr (.slice (some ⟨g, off + 12, none⟩) 4 (c - 12)) ((b.drop 12).take 4) := rd_frontF (HR.out.carry hbel) 12 4 (by rw [HB.out]; omega) (by rw [HB.out]; omega)
        have HS := hide hsub
        have HL := hide (show ((b.drop 12).take 4).length = 4 by rw [List.length_take, List.length_drop, HB.out]; rfl)
        obtain ⟨q0, q1, q2, q3, qf⟩ := beg_cells hcs.out
        have hfz := qf 3
        have hst := heap_setCell_same wr w.heap.size 3 _ _ (.int .u32 (prevB b)) hcs.out
        have HST := hide (show (wr.setCell ⟨w.heap.size, 3, none⟩ (.int .u32 (prevB b))).heap[w.heap.size]? = some (.cells (begC b 4) 54 (0, 0)) from hst)
        have HBL := hide (show Below w.heap.size w (wr.setCell ⟨w.heap.size, 3, none⟩ (.int .u32 (prevB b))) from hbel.grown (grown_setCell wr _ _) hbel.size (fun k hk => by cases hk; exact Nat.le_refl _))
        have HE := hide (show un4 ((b.drop 12).take 4) = prevB b from rfl)
        have hc0 : ¬ 12 = c := by omega
        have hc1 : 12 ≤ c := by omega
        have hc2 : 4 ≤ c - 12 := by omega
        clear hsub hst hcs hbel hlt hj
        go_wp2_with fail
        refine (fread_any (some ⟨g, off + 12, none⟩) 4 (c - 12) _ _ HS.out HL.out.symm (by rw [HL.out]; omega)).mono ?_
        rintro e w1 ⟨rfl, rfl⟩
        rw [HE.out]
        go_wp2
        go_roundw
        case rel => exact ⟨4, by omega, rfl, HST, HBL.out⟩
        case measure => simp only [intOf]; omega
    · have hd : decide ((j : Int) < 4) = false := by simpa using (by omega : ¬ (j : Int) < 4)
      obtain rfl : j = 4 := by omega
      have hc4 : wr.heap[w.heap.size]? = some (.cells #[.int .u32 (genF b), .int .u32 (numB b), .int .u32 (saltB b), .int .u32 (prevB b)] 54 (0, 0)) := hcs.out
      obtain ⟨ws, ews, hws, hgs⟩ := stored4F (.int .u32 (genF b)) (.int .u32 (numB b)) (.int .u32 (saltB b)) (.int .u32 (prevB b)) hc4
      obtain ⟨q0, q1, q2, q3, qf⟩ := beg_cells hc4
      obtain ⟨p0, p1, p2, p3, -⟩ := beg_cells hws
      have HW := hide ews
      have hbs : Below w.heap.size w ws := hbel.grown hgs hbel.size (fun k hk => by cases hk; exact Nat.le_refl _)
      clear hcs hws hgs ews hc4
      go_wp2
      rw [HW.out]
      refine bodyPost_ret (v := .agg #[.int .u32 (genF b), .int .u32 (numB b), .int .u32 (saltB b), .int .u32 (prevB b)]) ?_ rfl ⟨(rfl : Ending.returned (.agg #[.int .u32 (genF b), .int .u32 (numB b), .int .u32 (saltB b), .int .u32 (prevB b)]) = .returned (begV b)), hbs⟩
      simp [results, Try.results23, go_sem, *]

end Go.Proofs.Ytkhkdagdgbmdkaa
