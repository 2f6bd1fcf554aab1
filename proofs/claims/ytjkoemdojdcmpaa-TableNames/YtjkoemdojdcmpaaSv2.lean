/-
  What the two functions that are handed to sieve.eachBit do: a bit is asked, or set.
-/
import Derived.Test.YtjkoemdojdcmpaaSv1
namespace Go.Proofs.Ytjkoemdojdcmpaa
open Go.RowKit
set_option linter.unusedVariables false
set_option linter.unusedSimpArgs false

theorem getD_at (b : List UInt8) (k : Nat) (h : k < b.length) : b[k] = b.getD k 0 := by
  rw [List.getD_eq_getElem?_getD, List.getElem?_eq_getElem h]; rfl
theorem u8v_set (l : List UInt8) (k : Nat) (x : UInt8) : (u8v l).set k (.int .u8 x.toNat) = u8v (l.set k x) := by simp [u8v, List.map_set]
theorem OwY.setY {w : World} {base g n c : Nat} {l : List UInt8} (h : OwY w base (.slice (some ⟨g, 0, none⟩) n c) l) (k : Nat) (x : UInt8) (hB : base ≤ w.heap.size) :
    OwY (w.setCell ⟨g, k, none⟩ (.int .u8 x.toNat)) base (.slice (some ⟨g, 0, none⟩) n c) (l.set k x) ∧ Below base w (w.setCell ⟨g, k, none⟩ (.int .u8 x.toNat)) ∧ KeepG 5 w (w.setCell ⟨g, k, none⟩ (.int .u8 x.toNat)) := by
  obtain ⟨a', c', e⟩ := h.form
  cases e
  obtain ⟨s1, s2⟩ := World.ownsRow.stored h k (.int .u8 x.toNat)
  refine ⟨?_, ?_, keepY_of h s2⟩
  · unfold OwY
    rw [List.length_set, ← u8v_set]
    exact s1
  · exact (Below.refl _ _).grown s2 hB fun j hj => (World.ownsRow.lt h j hj).1
theorem or_bit (x : UInt8) (q m : Nat) (hm : m = 2 ^ (q % 8)) : bits BinOp.or IntKind.u8 (x.toNat : Int) (m : Int) = ((UInt8.ofNat (x.toNat ||| 2 ^ (q % 8))).toNat : Int) := by
  subst hm
  have h := pow8 q
  rw [u8_or_nat _ _ x.toNat_lt (by omega), stB_byte]

def SetP (w : World) (base : Nat) (v : Value) (b : List UInt8) (w' : World) : Prop := OwY w' base v b ∧ Below base w w' ∧ KeepG 5 w w'

set_option maxHeartbeats 1000000 in
set_option maxRecDepth 100000 in
theorem make1_sv (g n c base : Nat) (b : List UInt8) (p q m : Nat) (w : World) (hb : OwY w base (.slice (some ⟨g, 0, none⟩) n c) b) (hB : base ≤ w.heap.size) (hn : n = b.length) (hp : w.cell? ⟨p, 0, none⟩ = some (.slice (some ⟨g, 0, none⟩) n c)) (hq : q / 8 < n) (hm : m = 2 ^ (q % 8)) :
    Calls Try.prog 73 #[.int .i64 (q / 8 : Nat), .int .u8 m, .pointer (some ⟨p, 0, none⟩)] w fun e w' => e = .returned (.bool true) ∧ SetP w base (.slice (some ⟨g, 0, none⟩) n c) (stB b q) w' := by
  obtain ⟨g', off, ha, hx⟩ := rd_cellX hb.rd (q / 8) (by omega)
  cases ha
  rw [Nat.zero_add] at hx
  have e1 := or_bit b[q / 8] q m hm
  have HE := hide (show b.set (q / 8) (UInt8.ofNat ((b[q / 8]).toNat ||| 2 ^ (q % 8))) = stB b q by unfold stB; rw [getD_at b (q / 8) (by omega)])
  have hfz : w.frozen? ⟨g, q / 8, none⟩ = false := by
    rcases hb.2 with ⟨h, _⟩ | ⟨g', cap, cur, h, _, hg, _⟩
    · cases h
    · cases h
      exact frozen_of_row w g (q / 8) _ _ hg
  generalize b[q / 8] = x at *
  generalize UInt8.ofNat (x.toNat ||| 2 ^ (q % 8)) = y at *
  generalize stB b q = b' at *
  have HS := hide (hb.setY (q / 8) y hB)
  rw [HE.out] at HS
  clear HE hm hb hn
  generalize q / 8 = k at *
  have hk : (k : Int) < n := by omega
  go_enter Try.func73, Try.ntmps73
  go_wp2
  go_ret
  exact ⟨rfl, HS.out⟩
end Go.Proofs.Ytjkoemdojdcmpaa
