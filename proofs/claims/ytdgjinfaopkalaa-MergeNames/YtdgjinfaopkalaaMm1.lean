/-
  What mem.mayBe and the library's comparisons do.
-/
import Derived.Test.YtdgjinfaopkalaaBt7
import Derived.Test.YtdgjinfaopkalaaMathMm2
namespace Go.Proofs.Ytdgjinfaopkalaa
open Go.RowKit
set_option linter.unusedVariables false
set_option linter.unusedSimpArgs false

theorem entOk_iff (e : Ent) : entOk e = true ↔ 1 ≤ e.1.length ∧ e.1.length ≤ 64 ∧ 1 ≤ e.2.1 ∧ e.2.1 ≤ 1099511627776 ∧ e.2.2.2.length ≤ 512 ∧ (e.2.2.1 = false ∨ e.2.2.2 = []) := by
  unfold entOk
  simp [and_assoc]

set_option maxHeartbeats 400000 in
set_option maxRecDepth 100000 in
theorem nanS_mm (s : List UInt8) (w : World) :
    Calls Try.prog 44 #[.string (bs s)] w fun e w' => e = .returned (.bool false) ∧ w' = w := by
  go_enter Try.func44, Try.ntmps44
  go_wp2
  go_ret
  exact ⟨by simp, rfl⟩
set_option maxHeartbeats 400000 in
set_option maxRecDepth 100000 in
theorem nanI_mm (s : Int) (w : World) :
    Calls Try.prog 45 #[.int .i64 s] w fun e w' => e = .returned (.bool false) ∧ w' = w := by
  go_enter Try.func45, Try.ntmps45
  go_wp2
  go_ret
  exact ⟨by simp, rfl⟩
def cmpS (s t : List UInt8) : Int := if ltS s t then -1 else if ltS t s then 1 else 0
def cmpI (s t : Int) : Int := if s < t then -1 else if t < s then 1 else 0
theorem lt_bs (s t : List UInt8) : Op.bytesLess (bs s).toList (bs t).toList = ltS s t := by
  rw [ByteArray.toList_eq, ByteArray.toList_eq, bs_toList, bs_toList]; rfl

set_option maxHeartbeats 400000 in
set_option maxRecDepth 100000 in
theorem cmpS_mm (s t : List UInt8) (w : World) :
    Calls Try.prog 41 #[.string (bs s), .string (bs t)] w fun e w' => e = .returned (.int .i64 (cmpS s t)) ∧ w' = w := by
  have l1 := lt_bs s t
  have l2 := lt_bs t s
  have HC := hide (show cmpS s t = if ltS s t then -1 else if ltS t s then 1 else 0 from rfl)
  have he : ((bs s).toList == (bs t).toList) = decide (s = t) := by
    rw [ByteArray.toList_eq, ByteArray.toList_eq, bs_toList, bs_toList, Bool.eq_iff_iff]; simp
  cases h1 : ltS s t with
  | true =>
    rw [h1] at l1 HC
    go_enter Try.func41, Try.ntmps41
    go_wp2_with (go_at_call 44; refine (nanS_mm _ _).mono ?_; rintro e wc ⟨rfl, rfl⟩)
    go_ret
    exact ⟨ret_i64B HC.out.symm, rfl⟩
  | false =>
    rw [h1] at l1 HC
    cases h2 : ltS t s with
    | true =>
      rw [h2] at l2 HC
      rw [decide_eq_false (fun q => by rw [q, ltS_irrefl] at h2; cases h2)] at he
      go_enter Try.func41, Try.ntmps41
      go_wp2_with (go_at_call 44; refine (nanS_mm _ _).mono ?_; rintro e wc ⟨rfl, rfl⟩)
      go_ret
      exact ⟨ret_i64B HC.out.symm, rfl⟩
    | false =>
      rw [h2] at l2 HC
      rw [decide_eq_true ((ltS_total s t).elim (fun q => by rw [q] at h1; cases h1) (fun q => q.elim id (fun r => by rw [r] at h2; cases h2)))] at he
      go_enter Try.func41, Try.ntmps41
      go_wp2_with (go_at_call 44; refine (nanS_mm _ _).mono ?_; rintro e wc ⟨rfl, rfl⟩)
      go_ret
      exact ⟨ret_i64B HC.out.symm, rfl⟩
set_option maxHeartbeats 400000 in
set_option maxRecDepth 100000 in
theorem cmpI_mm (s t : Int) (w : World) :
    Calls Try.prog 42 #[.int .i64 s, .int .i64 t] w fun e w' => e = .returned (.int .i64 (cmpI s t)) ∧ w' = w := by
  by_cases h1 : s < t
  · have HC := hide (show cmpI s t = -1 by unfold cmpI; rw [if_pos h1])
    go_enter Try.func42, Try.ntmps42
    go_wp2_with (go_at_call 45; refine (nanI_mm _ _).mono ?_; rintro e wc ⟨rfl, rfl⟩)
    go_ret
    exact ⟨ret_i64B HC.out.symm, rfl⟩
  have h1' : decide (s < t) = false := by simpa using h1
  by_cases h2 : t < s
  · have HC := hide (show cmpI s t = 1 by unfold cmpI; rw [if_neg h1, if_pos h2])
    clear h1
    go_enter Try.func42, Try.ntmps42
    go_wp2_with (go_at_call 45; refine (nanI_mm _ _).mono ?_; rintro e wc ⟨rfl, rfl⟩)
    go_ret
    exact ⟨ret_i64B HC.out.symm, rfl⟩
  have h2' : decide (t < s) = false := by simpa using h2
  have HC := hide (show cmpI s t = 0 by unfold cmpI; rw [if_neg h1, if_neg h2])
  clear h1 h2
  go_enter Try.func42, Try.ntmps42
  go_wp2_with (go_at_call 45; refine (nanI_mm _ _).mono ?_; rintro e wc ⟨rfl, rfl⟩)
  go_ret
  exact ⟨ret_i64B HC.out.symm, rfl⟩
def TwoI (w : World) (A : Nat) (x y : Int) : Prop := w.heap[A]? = some (.cells #[.int .i64 x, .int .i64 y] 3 (0, 0))
theorem TwoI.cells {w : World} {A : Nat} {x y : Int} (h : TwoI w A x y) : w.cell? ⟨A, 0, none⟩ = some (.int .i64 x) ∧ w.cell? ⟨A, 1, none⟩ = some (.int .i64 y) :=
  ⟨by rw [cell_of_row w _ 0 _ _ (0, 0) h]; rfl, by rw [cell_of_row w _ 1 _ _ (0, 0) h]; rfl⟩
set_option maxHeartbeats 1000000 in
set_option maxRecDepth 100000 in
theorem or_mm (A : Nat) (x y : Int) (w : World) (h : TwoI w A x y) :
    Calls Try.prog 40 #[.slice (some ⟨A, 0, none⟩) 2 2] w fun e w' => e = .returned (.int .i64 (if x = 0 then y else x)) ∧ w' = w := by
  obtain ⟨c0, c1⟩ := h.cells
  clear h
  obtain ⟨z, hz⟩ : ∃ z, z = if x = 0 then y else x := ⟨_, rfl⟩
  rw [← hz]
  have HZ := hide hz
  clear hz
  go_enter Try.func40, Try.ntmps40
  go_wp2
  go_loopw [8] (fun i wr => ∃ k : Nat, k ≤ 2 ∧ i = .int .i64 k ∧ (0 < k → x = 0) ∧ (1 < k → y = 0) ∧ wr = w) (fun i _ => 2 - (intOf i).toNat)
  case atStart => exact ⟨0, by omega, rfl, fun h => by omega, fun h => by omega, rfl⟩
  case round =>
    obtain ⟨k, hk, rfl, h0, h1, rfl⟩ := hrel
    obtain rfl | rfl | rfl : k = 0 ∨ k = 1 ∨ k = 2 := by omega
    · by_cases hx : x = 0
      · subst hx
        clear h0 h1
        go_wp2
        go_roundw
        case rel => exact ⟨1, by omega, rfl, by simp, fun h => by omega, by simp⟩
        case measure => simp only [intOf]; omega
      · have hx' : (x != 0) = true := by simpa using hx
        have HX := hide (show x = z by rw [HZ.out, if_neg hx])
        clear h0 h1 hx
        go_wp2
        go_ret
        exact ⟨ret_i64B HX.out, rfl⟩
    · obtain rfl := h0 (by omega)
      by_cases hy : y = 0
      · subst hy
        clear h0 h1
        go_wp2
        go_roundw
        case rel => exact ⟨2, by omega, rfl, by simp, by simp, by simp⟩
        case measure => simp only [intOf]; omega
      · have hy' : (y != 0) = true := by simpa using hy
        have HX := hide (show y = z by rw [HZ.out, if_pos rfl])
        clear h0 h1 hy
        go_wp2
        go_ret
        exact ⟨ret_i64B HX.out, rfl⟩
    · obtain rfl := h0 (by omega)
      obtain rfl := h1 (by omega)
      have HX := hide (show 0 = z by rw [HZ.out, if_pos rfl])
      clear h0 h1
      go_wp2
      go_ret
      exact ⟨ret_i64B HX.out, rfl⟩
theorem cmpM_is (x y : Ent) : cmpM x y = if cmpS x.1 y.1 = 0 then cmpI y.2.1 x.2.1 else cmpS x.1 y.1 := by
  unfold cmpM cmpS cmpI
  by_cases h1 : ltS x.1 y.1 = true
  · rw [if_pos h1, if_pos h1]; rfl
  · rw [if_neg h1, if_neg h1]
    by_cases h2 : ltS y.1 x.1 = true
    · rw [if_pos h2, if_pos h2]; rfl
    · rw [if_neg h2, if_neg h2, if_pos rfl]
def EntAt (w : World) (A : Nat) (x : Ent) : Prop := w.heap[A]? = some (.cells #[.string (bs x.1), .int .i64 x.2.1, .bool x.2.2.1, .string (bs x.2.2.2)] 30 (0, 0))
theorem EntAt.carry {w w' : World} {A : Nat} {x : Ent} (h : EntAt w A x) (hb : Below w.heap.size w w') : EntAt w' A x := (hb.block _ (Array.getElem?_eq_some_iff.1 h).1).trans h
theorem EntAt.new (w : World) (x : Ent) : EntAt (w.alloc (.cells #[.string (bs x.1), .int .i64 x.2.1, .bool x.2.2.1, .string (bs x.2.2.2)] 30)) w.heap.size x := heap_alloc_new w _
theorem EntAt.cells {w : World} {A : Nat} {x : Ent} (h : EntAt w A x) : w.cell? ⟨A, 0, none⟩ = some (.string (bs x.1)) ∧ w.cell? ⟨A, 1, none⟩ = some (.int .i64 x.2.1) ∧ w.cell? ⟨A, 2, none⟩ = some (.bool x.2.2.1) ∧ w.cell? ⟨A, 3, none⟩ = some (.string (bs x.2.2.2)) :=
  ⟨by rw [cell_of_row w _ 0 _ _ (0, 0) h]; rfl, by rw [cell_of_row w _ 1 _ _ (0, 0) h]; rfl, by rw [cell_of_row w _ 2 _ _ (0, 0) h]; rfl, by rw [cell_of_row w _ 3 _ _ (0, 0) h]; rfl⟩
end Go.Proofs.Ytdgjinfaopkalaa
