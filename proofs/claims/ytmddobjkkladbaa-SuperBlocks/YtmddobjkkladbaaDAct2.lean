/-
  What dev's act does, whole: also where the disk is full.
-/
import Derived.Test.YtmddobjkkladbaaDAct
namespace Go.Proofs.Ytmddobjkkladbaa
open Go.RowKit
set_option linter.unusedVariables false
set_option linter.unusedSimpArgs false

set_option maxHeartbeats 1000000 in
set_option maxRecDepth 100000 in
theorem act_full (w0 : World) (gD B : Nat) (d : Dk) (s : Bool) (N : Int) (x : Option Addr) (m c : Nat) (w : World) (hD : Dp w w0.heap.size gD B d) (hbel : Below w0.heap.size w0 w) (hf : 65536 ≤ d.2.2.length ∨ (s = false ∧ 65536 ≤ d.2.1.length)) :
    Calls Try.prog 50 #[.pointer (some ⟨gD, 0, none⟩), .agg #[.bool s, .int .i64 N, .slice x m c]] w fun e w' => ∃ r, e = .returned (.int .i64 r) ∧ ActR w0 w' gD B none r := by
  obtain ⟨g0, cap, a2, c2, a3, c3, hd, hB, hB2, hBw0, hgD, o1, o2, o3⟩ := hD
  obtain ⟨w1, ew⟩ : ∃ w1, w.alloc (.cells #[.bool s, .int .i64 N, .slice x m c] 75) = w1 := ⟨_, rfl⟩
  have hb1 : Below w.heap.size w w1 := by rw [← ew]; exact (Below.refl _ _).alloc (Nat.le_refl _) _
  have hd1 := keeps_block _ _ _ _ hd hb1
  obtain ⟨k0, k1, k2, _⟩ := cells3 hd1
  have b0 : w1.cell? ⟨w.heap.size, 0, none⟩ = some (.bool s) := by rw [← ew]; simp
  have hb2 : Below w0.heap.size w0 w1 := hbel.trans (hb1.mono hbel.size)
  clear o1 o2 o3 hd hd1 hb1
  by_cases h3 : 65536 ≤ d.2.2.length
  · have g3 : (65536 : Int) ≤ d.2.2.length := by omega
    go_enter Try.func50, Try.ntmps50
    go_wp2
    go_ret
    exact ⟨_, rfl, hb2, .inl ⟨rfl, rfl⟩⟩
  · obtain ⟨rfl, h2⟩ : s = false ∧ 65536 ≤ d.2.1.length := by rcases hf with h | h; exact absurd h h3; exact h
    have g3 : decide ((65536 : Int) ≤ d.2.2.length) = false := by simp; omega
    have g2 : (65536 : Int) ≤ d.2.1.length := by omega
    go_enter Try.func50, Try.ntmps50
    go_wp2
    go_ret
    exact ⟨_, rfl, hb2, .inl ⟨rfl, rfl⟩⟩

theorem act_any (w0 : World) (gD B cnt : Nat) (d : Dk) (s : Bool) (N : Int) (x : Option Addr) (m c : Nat) (l : List UInt8) (w : World) (hD : Dp w w0.heap.size gD B d) (hbel : Below w0.heap.size w0 w) (hrd : Rd w0 (.slice x m c) l) (hm : m = l.length) (hl : l.length ≤ 1000000000) (hw : d.2.1.length ≤ 65536) (hn : d.2.2.length ≤ 65536)
    (hlen : d.1.length = 128 * cnt) (hc0 : 1 ≤ cnt) (hcnt : cnt ≤ 4096) (hp : ∀ p ∈ d.2.1, putE cnt p = 0) :
    Calls Try.prog 50 #[.pointer (some ⟨gD, 0, none⟩), .agg #[.bool s, .int .i64 N, .slice x m c]] w fun e w' => ∃ r, e = .returned (.int .i64 r) ∧ ActR w0 w' gD B (oneD d (s, N, l)) r := by
  by_cases hf : 65536 ≤ d.2.2.length ∨ (s = false ∧ 65536 ≤ d.2.1.length)
  · have e : oneD d (s, N, l) = none := by unfold oneD; rw [if_pos hf]
    rw [e]
    exact act_full w0 gD B d s N x m c w hD hbel hf
  · have e : oneD d (s, N, l) = if s then some (setBs d.1 d.2.1, [], d.2.2 ++ [(s, N, l)]) else some (d.1, d.2.1 ++ [(N, l)], d.2.2 ++ [(s, N, l)]) := by unfold oneD; rw [if_neg hf]
    rw [e]
    cases s
    · exact act_write w0 gD B d N x m c l w hD hbel hrd hm hl (by simp at hf; omega) (by omega)
    · exact act_sync w0 gD B cnt d N x m c l w hD hbel hrd hm hl hw (by omega) hlen hc0 hcnt hp

end Go.Proofs.Ytmddobjkkladbaa
