/-
  What alive, num and txt do: alive answers true, and changes nothing that was there.
-/
import Derived.Test.YtpammicadnfheaaSame
namespace Go.Proofs.Ytpammicadnfheaa
open Go.RowKit
set_option linter.unusedVariables false
set_option linter.unusedSimpArgs false

set_option maxHeartbeats 400000 in
set_option maxRecDepth 100000 in
theorem num_any (n : Int) (w : World) :
    Calls Try.prog 12 #[.int .u64 n] w fun e w' => e = .returned (.agg #[.bool false, .int .u64 n, .string { data := #[] }]) ∧ Below w.heap.size w w' := by
  go_enter Try.func12, Try.ntmps12
  go_wp2
  refine bodyPost_ret (v := .agg #[.bool false, .int .u64 n, .string { data := #[] }]) ?_ rfl ⟨rfl, ?_⟩
  · simp [results, Try.results12, go_sem, *]
  · first | exact below3 ((Below.refl w.heap.size w).alloc (Nat.le_refl _) _) _ _ _ | exact (Below.refl w.heap.size w).alloc (Nat.le_refl _) _

set_option maxHeartbeats 400000 in
set_option maxRecDepth 100000 in
theorem txt_any (s : ByteArray) (w : World) :
    Calls Try.prog 13 #[.string s] w fun e w' => e = .returned (.agg #[.bool true, .int .u64 0, .string s]) ∧ Below w.heap.size w w' := by
  go_enter Try.func13, Try.ntmps13
  go_wp2
  refine bodyPost_ret (v := .agg #[.bool true, .int .u64 0, .string s]) ?_ rfl ⟨rfl, ?_⟩
  · simp [results, Try.results13, go_sem, *]
  · first | exact below3 ((Below.refl w.heap.size w).alloc (Nat.le_refl _) _) _ _ _ | exact (Below.refl w.heap.size w).alloc (Nat.le_refl _) _

/-- A literal of parts reads as them. -/
theorem rdp_lit (w : World) (l : List Pt) (arr : Array Value) (harr : arr = (ptsv l).toArray) (hf : fits l) (hl : l.length ≤ maxLen) (n : Nat) (hn : n = l.length) (N : Nat) (hN : w.heap.size = N) :
    RdP (w.alloc (.cells arr 32)) (.slice (some ⟨N, 0, none⟩) n n) l := by
  subst harr hn hN
  refine .inr ⟨w.heap.size, 0, l.length, rfl, Nat.le_refl _, hl, fun j hj => ?_⟩
  obtain ⟨g0, g1, g2⟩ := ptsv_get l j hj
  have h := fun k u (hk : (ptsv l)[k]? = some u) => World.news_of_block (w := w.alloc (.cells (ptsv l).toArray 32)) (heap_alloc_new w _) k u (by simpa using hk)
  have c0 := h _ _ g0
  have c1 := h _ _ g1
  have c2 := h _ _ g2
  rw [Addr.add_lit] at c0 c1 c2
  exact ⟨c0, c1, c2, hf j hj⟩

def aliveL : List Pt := [(true, 0, [97]), (false, 258, [])]
theorem alive_fits : fits aliveL := by
  intro j hj
  match j, hj with
  | 0, _ => exact ⟨show 0 < 18446744073709551616 by omega, show 1 ≤ maxLen by unfold maxLen; omega⟩
  | 1, _ => exact ⟨show 258 < 18446744073709551616 by omega, show 0 ≤ maxLen by omega⟩
theorem alive_ky : ky aliveL = ([2, 97, 0, 0, 1, 0, 0, 0, 0, 0, 0, 1, 2], 0) := by decide +kernel
theorem alive_pa : pa [2, 97, 0, 0, 1, 0, 0, 0, 0, 0, 0, 1, 2] = (aliveL, 0) := by decide +kernel

set_option maxHeartbeats 400000 in
set_option maxRecDepth 100000 in
theorem alive_any (w : World) :
    Calls Try.prog 18 #[] w fun e w' => e = .returned (.bool true) ∧ Below w.heap.size w w' := by
  go_enter Try.func18, Try.ntmps18
  go_wp2_with fail
  refine (txt_any _ _).mono ?_
  rintro e w1 ⟨rfl, hb1⟩
  go_wp2_with fail
  refine (num_any _ _).mono ?_
  rintro e w2 ⟨rfl, hb2⟩
  go_wp2_with fail
  have hr := rdp_lit w2 aliveL _ rfl alive_fits (by decide) 2 rfl _ rfl
  refine (key_any (l := aliveL) _ (by decide) (by exact hr)).mono ?_
  rintro e w3 ⟨rfl, hb3⟩
  have HK : Hid (kyV aliveL = .tuple #[.string (bs [2, 97, 0, 0, 1, 0, 0, 0, 0, 0, 0, 1, 2]), .int .i64 0]) := by show _ = _; rw [kyV, alive_ky]
  rw [HK.out]
  go_wp2_with fail
  refine (parts_any _ _ (by decide)).mono ?_
  rintro e w4 ⟨v, rfl, hv, hb4⟩
  rw [alive_pa] at hv ⊢
  have hq : ((bs [2, 97, 0, 0, 1, 0, 0, 0, 0, 0, 0, 1, 2]).toList == [2, 97, 0, 0, 1, 0, 0, 0, 0, 0, 0, 1, 2]) = true := by rw [ByteArray.toList_eq, bs_toList]; decide
  go_wp2_with fail
  refine (txt_any _ _).mono ?_
  rintro e w5 ⟨rfl, hb5⟩
  go_wp2_with fail
  refine (num_any _ _).mono ?_
  rintro e w6 ⟨rfl, hb6⟩
  go_wp2_with fail
  have hr2 := rdp_lit w6 aliveL _ rfl alive_fits (by decide) 2 rfl _ rfl
  have ha6 : Below w6.heap.size w6 (w6.alloc (.cells (ptsv aliveL).toArray 32)) := (Below.refl _ _).alloc (Nat.le_refl _) _
  refine (same_any (l := aliveL) (l' := aliveL) _ (by decide) (((hv.carry hb5).carry hb6).carry ha6) (by exact hr2)).mono ?_
  rintro e w7 ⟨rfl, hb7⟩
  rw [decide_eq_true rfl]
  go_wp2
  go_ret
  refine ⟨rfl, ?_⟩
  exact keeps_below w _ _ (keeps_below w _ _ (keeps_below w _ _ (keeps_below w _ _ (keeps_below w _ _ (keeps_below w _ _ (keeps_below w _ _ (keeps_below w _ _ hb1 hb2) ((Below.refl _ _).alloc (Nat.le_refl _) _)) hb3) hb4) hb5) hb6) ha6) hb7

end Go.Proofs.Ytpammicadnfheaa
