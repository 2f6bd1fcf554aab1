/-
  What dev's Read and Many do.
-/
import Derived.Test.YtmddobjkkladbaaDSame
namespace Go.Proofs.Ytmddobjkkladbaa
open Go.RowKit
set_option linter.unusedVariables false
set_option linter.unusedSimpArgs false

def readD (d : Dk) (n : Int) : List UInt8 × Int := if chk d ≠ 0 then ([], chk d) else if n < 0 ∨ (mny d : Int) ≤ n then ([], 2) else (nowD d n.toNat, 0)
def manyD (d : Dk) : Int × Int := if chk d ≠ 0 then (0, chk d) else (mny d, 0)

theorem own_blk {w : World} {base g : Nat} {l : List UInt8} (h : Blk w base g l) : OwB w base (.slice (some ⟨g, 0, none⟩) 128 128) l := by
  obtain ⟨h1, h2, h3⟩ := h
  show w.ownsRow _ _ _ _ _ _
  rw [h2]
  refine ⟨by simp [u8v, h2], .inr ⟨g, 128, _, rfl, h1, h3, Nat.le_refl _, by unfold maxLen; decide, by simp [u8v, h2], ?_⟩⟩
  rw [List.take_of_length_le (by simp [u8v, h2])]
theorem rd_sub {w : World} {a : Option Addr} {n c : Nat} {l : List UInt8} (h : Rd w (.slice a n c) l) (lo hi : Nat) (h1 : lo < hi) (h2 : hi ≤ l.length) : ∃ b off, a = some ⟨b, off, none⟩ ∧ n = l.length ∧ n ≤ c ∧ Rd w (.slice (some ⟨b, off + lo, none⟩) (hi - lo) (c - lo)) ((l.drop lo).take (hi - lo)) := by
  rcases h with ⟨rfl, _⟩ | ⟨b, off, c', e, e1, e2, hc⟩
  · simp at h2; omega
  · cases e
    refine ⟨b, off, rfl, rfl, e1, ?_⟩
    have hl : ((l.drop lo).take (hi - lo)).length = hi - lo := by rw [List.length_take, List.length_drop]; omega
    refine .inr ⟨b, off + lo, c - lo, by rw [hl], by rw [hl]; omega, by omega, fun j hj => ?_⟩
    rw [hl] at hj
    have := hc (lo + j) (by omega)
    rw [Nat.add_assoc]
    rw [this]
    simp

theorem wrapq {k q n1 c1 : Nat} (h : n1 = 128 * q) (hk : k < q) (hc : n1 ≤ c1) : (k + 1) * 128 ≤ n1 ∧ ¬ k * 128 = c1 ∧ (k + 1) * 128 ≤ c1 := by omega
theorem wrapk (k : Nat) (h : k ≤ 1000000) : wrap64 ((k : Int) * 128) = ((k * 128 : Nat) : Int) ∧ wrap64 (((k : Int) + 1) * 128) = (((k + 1) * 128 : Nat) : Int) ∧ wrap64 ((k : Int) + 1) = (k : Int) + 1 := by
  unfold wrap64
  refine ⟨by omega, by omega, by omega⟩

set_option maxHeartbeats 1000000 in
set_option maxRecDepth 100000 in
theorem many_any {d : Dk} {v : Value} (w : World) (hD : RdD w v d) :
    Calls Try.prog 27 #[v] w fun e w' => e = .returned (.tuple #[.int .i64 (manyD d).1, .int .i64 (manyD d).2]) ∧ Below w.heap.size w w' := by
  obtain ⟨a1, c1, a2, c2, a3, c3, rfl, h1, h2, _⟩ := hD.form
  have hn1 : d.1.length ≤ maxLen := h1.len_le
  have HD := hide hD
  clear hD h1 h2
  generalize e1 : d.1.length = n1 at *
  generalize e2 : d.2.1.length = n2 at *
  generalize e3 : d.2.2.length = n3 at *
  have E1 := hide e1
  clear e1 e2 e3
  obtain ⟨q, eq⟩ : ∃ q, q = n1 / 128 := ⟨_, rfl⟩
  have HM := hide (show mny d = q by rw [mny, E1.out, eq])
  have HC := hide (fun wx => eq ▸ count_any a1 a2 a3 n1 c1 n2 c2 n3 c3 hn1 wx : ∀ wx, Calls Try.prog 44 #[.agg #[.slice a1 n1 c1, .slice a2 n2 c2, .slice a3 n3 c3]] wx fun e w' => e = .returned (.int .i64 q) ∧ Below wx.heap.size wx w')
  clear eq
  obtain ⟨w1, ew⟩ : ∃ w1, w.alloc (.cells #[.slice a1 n1 c1, .slice a2 n2 c2, .slice a3 n3 c3] 35) = w1 := ⟨_, rfl⟩
  have hb1 : Below w.heap.size w w1 := by rw [← ew]; exact (Below.refl _ _).alloc (Nat.le_refl _) _
  have k0 : w1.cell? ⟨w.heap.size, 0, none⟩ = some (.slice a1 n1 c1) := by rw [← ew]; simp
  have k1 : w1.cell? ⟨w.heap.size, 1, none⟩ = some (.slice a2 n2 c2) := by rw [← ew]; simp
  have k2 : w1.cell? ⟨w.heap.size, 2, none⟩ = some (.slice a3 n3 c3) := by rw [← ew]; simp
  go_enter Try.func27, Try.ntmps27
  go_wp2_with fail
  refine (check_any (d := d) _ (HD.out.carry hb1)).mono ?_
  rintro e w2 ⟨rfl, hb2⟩
  have hB2 : Below w.heap.size w w2 := hb1.trans (hb2.mono hb1.size)
  have k0' := keeps_cell _ _ _ _ k0 hb2
  have k1' := keeps_cell _ _ _ _ k1 hb2
  have k2' := keeps_cell _ _ _ _ k2 hb2
  clear ew k0 k1 k2 hb1 hb2
  rcases chk_cases d with ⟨hok, hck⟩ | ⟨hok, hck⟩
  · rw [hck]
    have HE := hide (show manyD d = ((q : Int), 0) by unfold manyD; rw [if_neg (by rw [hck]; decide), HM.out])
    clear hck hok
    go_wp2_with fail
    refine (HC.out _).mono ?_
    rintro e w3 ⟨rfl, hb3⟩
    have hB3 : Below w.heap.size w w3 := hB2.trans (hb3.mono hB2.size)
    go_wp2
    go_ret2
    rw [HE.out]
    exact ⟨rfl, hB3⟩
  · rw [hck]
    have HE := hide (show manyD d = (0, 20) by unfold manyD; rw [if_pos (by rw [hck]; decide), hck])
    clear hck hok
    go_wp2
    go_ret2
    rw [HE.out]
    exact ⟨rfl, hB2⟩

end Go.Proofs.Ytmddobjkkladbaa
