/-
  What dev's Write, Sync, Clear, New and Many do.
-/
import Derived.Test.YtmddobjkkladbaaDDo
namespace Go.Proofs.Ytmddobjkkladbaa
open Go.RowKit
set_option linter.unusedVariables false
set_option linter.unusedSimpArgs false

def clearD (d : Dk) : Dk × Int := if chk d ≠ 0 then (dz, chk d) else ((d.1, d.2.1, []), 0)
def newD (n : Int) : Dk × Int := if n < 1 ∨ 4096 < n then (dz, 20) else ((List.replicate (n.toNat * 128) 0, [], []), 0)

theorem rdA_lit (w : World) (s : Bool) (N : Int) (x : Value) (l : List UInt8) (h : Rd w x l) : RdA (w.alloc (.cells #[.bool s, .int .i64 N, x] 75)) (.slice (some ⟨w.heap.size, 0, none⟩) 1 1) [(s, N, l)] := by
  refine .inr ⟨w.heap.size, 0, 1, rfl, Nat.le_refl _, by unfold maxLen; decide, fun j hj => ?_⟩
  obtain rfl : j = 0 := by simpa using hj
  exact ⟨by simp, by simp, x, by simp, h.alloc _⟩
theorem OwD.form {w : World} {base : Nat} {v : Value} {d : Dk} (h : OwD w base v d) : ∃ a1 c1 a2 c2 a3 c3, v = .agg #[.slice a1 d.1.length c1, .slice a2 d.2.1.length c2, .slice a3 d.2.2.length c3] := by
  obtain ⟨a1, c1, a2, c2, a3, c3, e, _⟩ := h.rd.form
  exact ⟨a1, c1, a2, c2, a3, c3, e⟩
theorem cells3_alloc2 (w : World) (a b c : Value) (o : Obj) (t : TypeId) : ((w.alloc (.cells #[a, b, c] t)).alloc o).cell? ⟨w.heap.size, 0, none⟩ = some a ∧ ((w.alloc (.cells #[a, b, c] t)).alloc o).cell? ⟨w.heap.size, 1, none⟩ = some b ∧ ((w.alloc (.cells #[a, b, c] t)).alloc o).cell? ⟨w.heap.size, 2, none⟩ = some c := by
  refine ⟨by simp, by simp, by simp⟩

set_option maxHeartbeats 1000000 in
set_option maxRecDepth 100000 in
theorem write_any {d : Dk} {v : Value} (N : Int) (x : Option Addr) (m c : Nat) (l : List UInt8) (w : World) (hD : RdD w v d) (hrd : Rd w (.slice x m c) l) :
    Calls Try.prog 22 #[v, .int .i64 N, .slice x m c] w fun e w' => ∃ dv, e = .returned (.tuple #[dv, .int .i64 (doD d [(false, N, l)] 1).2]) ∧ OwD w' w.heap.size dv (doD d [(false, N, l)] 1).1 ∧ Below w.heap.size w w' := by
  obtain ⟨a1, c1, a2, c2, a3, c3, rfl, _, _, _⟩ := hD.form
  have HD := hide hD
  clear hD
  have HR := hide hrd
  clear hrd
  obtain ⟨w1, ew⟩ : ∃ w1, (w.alloc (.cells #[.slice a1 d.1.length c1, .slice a2 d.2.1.length c2, .slice a3 d.2.2.length c3] 35)).alloc (.cells #[.slice none 0 0, .slice none 0 0, .slice none 0 0] 35) = w1 := ⟨_, rfl⟩
  have hb1 : Below w.heap.size w w1 := by rw [← ew]; exact ((Below.refl _ _).alloc (Nat.le_refl _) _).alloc (by simp) _
  have k0 : w1.cell? ⟨w.heap.size, 0, none⟩ = some (.slice a1 d.1.length c1) := by rw [← ew]; simp
  have k1 : w1.cell? ⟨w.heap.size, 1, none⟩ = some (.slice a2 d.2.1.length c2) := by rw [← ew]; simp
  have k2 : w1.cell? ⟨w.heap.size, 2, none⟩ = some (.slice a3 d.2.2.length c3) := by rw [← ew]; simp
  have hr1 : w1.heap[w.heap.size + 1]? = some (.cells #[.slice none 0 0, .slice none 0 0, .slice none 0 0] 35 (0, 0)) := by rw [← ew]; exact heap_alloc2 _ _ _
  have hs1 : w.heap.size + 2 ≤ w1.heap.size := by rw [← ew]; simp
  have hl := rdA_lit w1 false N (.slice x m c) l (HR.out.carry hb1)
  obtain ⟨w2, ew2⟩ : ∃ w2, w1.alloc (.cells #[.bool false, .int .i64 N, .slice x m c] 75) = w2 := ⟨_, rfl⟩
  rw [ew2] at hl
  have HL := hide hl
  have hb2 : Below w1.heap.size w1 w2 := by rw [← ew2]; exact (Below.refl _ _).alloc (Nat.le_refl _) _
  have hB2 : Below w.heap.size w w2 := hb1.trans (hb2.mono hb1.size)
  have hr2 := keeps_block _ _ _ _ hr1 hb2
  have hs2 := Nat.le_trans hs1 hb2.size
  clear hl hb2 hr1 hs1
  go_enter Try.func22, Try.ntmps22
  go_wp2_with fail
  refine (do_any (d := d) [(false, N, l)] _ 1 1 1 _ (HD.out.carry hB2) HL.out rfl).mono ?_
  clear ew ew2 k0 k1 k2
  rintro e w3 ⟨dv, rfl, hO, hb3⟩
  obtain ⟨p1, t1, p2, t2, p3, t3, rfl⟩ := hO.form
  have hB3 : Below w.heap.size w w3 := hB2.trans (hb3.mono hB2.size)
  have hr3 := keeps_block _ _ _ _ hr2 hb3
  obtain ⟨r, er⟩ : ∃ r, r = doD d [(false, N, l)] 1 := ⟨_, rfl⟩
  have HE := hide er
  rw [← er] at hO ⊢
  clear er
  obtain ⟨ws, ews, hws, hgs⟩ := stored3 (.slice p1 r.1.1.length t1) (.slice p2 r.1.2.1.length t2) (.slice p3 r.1.2.2.length t3) hr3
  obtain ⟨z1, z2, z3, z4⟩ := cells3 hr3
  obtain ⟨q1, q2, q3, q4⟩ := cells3 hws
  have hbs := hB3.grown hgs hB3.size (fun k hk => by cases hk; simp)
  have HO := hide ((hO.grown hgs (by omega)).mono (by omega) : OwD ws w.heap.size _ _)
  clear hws hgs hO hb3 hr3
  go_wp2
  refine bodyPost_ret (v := .tuple #[.agg #[.slice p1 r.1.1.length t1, .slice p2 r.1.2.1.length t2, .slice p3 r.1.2.2.length t3], .int .i64 r.2]) ?_ rfl ?_
  · simp [results, Try.results22, go_sem, *]
  · rw [← HE.out]; exact ⟨_, rfl, HO.out, hbs⟩

set_option maxHeartbeats 1000000 in
set_option maxRecDepth 100000 in
theorem sync_any {d : Dk} {v : Value}  (w : World) (hD : RdD w v d) :
    Calls Try.prog 24 #[v] w fun e w' => ∃ dv, e = .returned (.tuple #[dv, .int .i64 (doD d [(true, 0, [])] 1).2]) ∧ OwD w' w.heap.size dv (doD d [(true, 0, [])] 1).1 ∧ Below w.heap.size w w' := by
  obtain ⟨a1, c1, a2, c2, a3, c3, rfl, _, _, _⟩ := hD.form
  have HD := hide hD
  clear hD
  obtain ⟨w1, ew⟩ : ∃ w1, (w.alloc (.cells #[.slice a1 d.1.length c1, .slice a2 d.2.1.length c2, .slice a3 d.2.2.length c3] 35)).alloc (.cells #[.slice none 0 0, .slice none 0 0, .slice none 0 0] 35) = w1 := ⟨_, rfl⟩
  have hb1 : Below w.heap.size w w1 := by rw [← ew]; exact ((Below.refl _ _).alloc (Nat.le_refl _) _).alloc (by simp) _
  have k0 : w1.cell? ⟨w.heap.size, 0, none⟩ = some (.slice a1 d.1.length c1) := by rw [← ew]; simp
  have k1 : w1.cell? ⟨w.heap.size, 1, none⟩ = some (.slice a2 d.2.1.length c2) := by rw [← ew]; simp
  have k2 : w1.cell? ⟨w.heap.size, 2, none⟩ = some (.slice a3 d.2.2.length c3) := by rw [← ew]; simp
  have hr1 : w1.heap[w.heap.size + 1]? = some (.cells #[.slice none 0 0, .slice none 0 0, .slice none 0 0] 35 (0, 0)) := by rw [← ew]; exact heap_alloc2 _ _ _
  have hs1 : w.heap.size + 2 ≤ w1.heap.size := by rw [← ew]; simp
  have hl := rdA_lit w1 true 0 (.slice none 0 0) [] (.inl ⟨rfl, .inl rfl⟩)
  obtain ⟨w2, ew2⟩ : ∃ w2, w1.alloc (.cells #[.bool true, .int .i64 0, .slice none 0 0] 75) = w2 := ⟨_, rfl⟩
  rw [ew2] at hl
  have HL := hide hl
  have hb2 : Below w1.heap.size w1 w2 := by rw [← ew2]; exact (Below.refl _ _).alloc (Nat.le_refl _) _
  have hB2 : Below w.heap.size w w2 := hb1.trans (hb2.mono hb1.size)
  have hr2 := keeps_block _ _ _ _ hr1 hb2
  have hs2 := Nat.le_trans hs1 hb2.size
  clear hl hb2 hr1 hs1
  go_enter Try.func24, Try.ntmps24
  go_wp2_with fail
  refine (do_any (d := d) [(true, 0, [])] _ 1 1 1 _ (HD.out.carry hB2) HL.out rfl).mono ?_
  clear ew ew2 k0 k1 k2
  rintro e w3 ⟨dv, rfl, hO, hb3⟩
  obtain ⟨p1, t1, p2, t2, p3, t3, rfl⟩ := hO.form
  have hB3 : Below w.heap.size w w3 := hB2.trans (hb3.mono hB2.size)
  have hr3 := keeps_block _ _ _ _ hr2 hb3
  obtain ⟨r, er⟩ : ∃ r, r = doD d [(true, 0, [])] 1 := ⟨_, rfl⟩
  have HE := hide er
  rw [← er] at hO ⊢
  clear er
  obtain ⟨ws, ews, hws, hgs⟩ := stored3 (.slice p1 r.1.1.length t1) (.slice p2 r.1.2.1.length t2) (.slice p3 r.1.2.2.length t3) hr3
  obtain ⟨z1, z2, z3, z4⟩ := cells3 hr3
  obtain ⟨q1, q2, q3, q4⟩ := cells3 hws
  have hbs := hB3.grown hgs hB3.size (fun k hk => by cases hk; simp)
  have HO := hide ((hO.grown hgs (by omega)).mono (by omega) : OwD ws w.heap.size _ _)
  clear hws hgs hO hb3 hr3
  go_wp2
  refine bodyPost_ret (v := .tuple #[.agg #[.slice p1 r.1.1.length t1, .slice p2 r.1.2.1.length t2, .slice p3 r.1.2.2.length t3], .int .i64 r.2]) ?_ rfl ?_
  · simp [results, Try.results24, go_sem, *]
  · rw [← HE.out]; exact ⟨_, rfl, HO.out, hbs⟩

end Go.Proofs.Ytmddobjkkladbaa
