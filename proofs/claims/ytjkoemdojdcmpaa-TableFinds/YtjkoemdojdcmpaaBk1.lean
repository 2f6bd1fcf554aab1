/-
  What block.Common, byteOf, entryMayBe and stands, and the document's Common, Key, May and Ahead of layer 12 do.
-/
import Derived.Test.YtjkoemdojdcmpaaMathBk
import Derived.Test.YtjkoemdojdcmpaaMm1
import Derived.BigQuiet
namespace Go.Proofs.Ytjkoemdojdcmpaa
open Go.RowKit
set_option linter.unusedVariables false
set_option linter.unusedSimpArgs false

theorem ix_bk (s : List UInt8) (k : Nat) (h : k < s.length) (wx : World) : (Instr.index 9 (.string (bs s)) (.int .i64 k)).run Try.prog wx = .ok (.int .u8 (s[k]).toNat) wx := by
  rw [run_index_string wx 9 (bs s) .i64 k Try.underlying9, dif_pos ⟨by omega, by rw [bs_size]; omega⟩]
  rfl
theorem min_bk {a b m : Nat} (h : m = min a b) (ts : Array TypeId) (t : TypeId) (wx : World) : (Builtin.min_ ts t #[.int .i64 a, .int .i64 b]).run Try.prog wx = .ok (.int .i64 m) wx := by
  rw [run_min_int2]
  congr 2
  split <;> omega
theorem eq_u8 (x y : UInt8) : (((x.toNat : Nat) : Int) == ((y.toNat : Nat) : Int)) = decide (x = y) := by
  rw [Bool.eq_iff_iff]
  simp only [beq_iff_eq, decide_eq_true_iff]
  constructor
  · intro h; exact UInt8.toNat_inj.1 (by omega)
  · rintro rfl; rfl

set_option maxHeartbeats 1000000 in
set_option maxRecDepth 100000 in
theorem common_bk (a b : List UInt8) (w : World) (ha : a.length ≤ 1000000) :
    Calls Try.prog 81 #[.string (bs a), .string (bs b)] w fun e w' => e = .returned (.int .i64 (cmn a b)) ∧ Below w.heap.size w w' := by
  have hs1 := bs_size a
  have hs2 := bs_size b
  obtain ⟨na, hna⟩ : ∃ n, n = a.length := ⟨_, rfl⟩
  obtain ⟨nb, hnb⟩ : ∃ n, n = b.length := ⟨_, rfl⟩
  obtain ⟨m, hm⟩ : ∃ m, m = min na nb := ⟨_, rfl⟩
  have HNA := hide hna
  have HNB := hide hnb
  have HM := hide hm
  rw [← hna] at hs1 ha
  rw [← hnb] at hs2
  have hmin := fun ts t wx => min_bk hm ts t wx
  have hm6 : m ≤ 1000000 := by omega
  clear hna hnb hm
  go_enter Try.func81, Try.ntmps81
  go_wp2
  go_loopw [5] (fun i wr => ∃ k : Nat, k ≤ m ∧ i = .int .i64 k ∧ Hid (k ≤ cmn a b) ∧ Below w.heap.size w wr) (fun i _ => m - (intOf i).toNat)
  case atStart => exact ⟨0, Nat.zero_le _, rfl, hide (Nat.zero_le _), Below.refl _ _⟩
  case round =>
    obtain ⟨k, hk, rfl, hc, hbel⟩ := hrel
    by_cases hlt : k < m
    · have hlt' : (k : Int) < m := by omega
      have hka : k < a.length := by have := HNA.out; have := HM.out; omega
      have hkb : k < b.length := by have := HNB.out; have := HM.out; omega
      have i1 := fun wx => ix_bk a k hka wx
      have i2 := fun wx => ix_bk b k hkb wx
      have he := eq_u8 a[k] b[k]
      have HT := hide (show a[k] = b[k] → k + 1 ≤ cmn a b from fun e => cmn_step hc.out hka hkb e)
      have HS := hide (show ¬ a[k] = b[k] → cmn a b = k from fun e => cmn_stop hc.out (fun _ _ => e))
      generalize a[k] = x at *
      generalize b[k] = y at *
      clear hka hkb
      by_cases hxy : x = y
      · rw [decide_eq_true hxy] at he
        have HC := hide (HT.out hxy)
        clear hxy HT HS
        go_wp2
        go_quiet (fail)
        go_wp2
        go_roundw
        case rel => exact ⟨k + 1, by omega, by go_num, HC, belowX_drewN hbel _⟩
        case measure => simp only [intOf]; omega
      · rw [decide_eq_false hxy] at he
        have HC := hide (HS.out hxy)
        clear hxy HT HS
        go_wp2
        go_quiet (fail)
        go_wp2
        go_ret
        exact ⟨ret_i64B (by rw [HC.out]), belowX_drewN hbel _⟩
    · have hd : decide ((k : Int) < m) = false := by simpa using (by omega : ¬ (k : Int) < m)
      have HC := hide (show cmn a b = k from cmn_stop hc.out (fun h1 h2 => by have := HNA.out; have := HNB.out; have := HM.out; omega))
      go_wp2
      go_quiet (fail)
      go_wp2
      go_ret
      exact ⟨ret_i64B (by rw [HC.out]), belowX_drewN hbel _⟩

set_option maxHeartbeats 1000000 in
set_option maxRecDepth 100000 in
theorem rcommon_bk (a b : List UInt8) (w : World) (ha : a.length ≤ 1000000) :
    Calls Try.prog 79 #[.string (bs a), .string (bs b)] w fun e w' => e = .returned (.int .i64 (cmn a b)) ∧ Below w.heap.size w w' := by
  have hs1 := bs_size a
  have hs2 := bs_size b
  obtain ⟨na, hna⟩ : ∃ n, n = a.length := ⟨_, rfl⟩
  obtain ⟨nb, hnb⟩ : ∃ n, n = b.length := ⟨_, rfl⟩
  have HNA := hide hna
  have HNB := hide hnb
  rw [← hna] at hs1 ha
  rw [← hnb] at hs2
  clear hna hnb
  go_enter Try.func79, Try.ntmps79
  go_wp2
  go_loopw [5] (fun i wr => ∃ k : Nat, k ≤ na ∧ k ≤ nb ∧ i = .int .i64 k ∧ Hid (k ≤ cmn a b) ∧ Below w.heap.size w wr) (fun i _ => na - (intOf i).toNat)
  case atStart => exact ⟨0, Nat.zero_le _, Nat.zero_le _, rfl, hide (Nat.zero_le _), Below.refl _ _⟩
  case round =>
    obtain ⟨k, hk, hk2, rfl, hc, hbel⟩ := hrel
    by_cases hlt : k < na
    · have hlt' : (k : Int) < na := by omega
      by_cases hlt2 : k < nb
      · have hlt3 : (k : Int) < nb := by omega
        have hka : k < a.length := by have := HNA.out; omega
        have hkb : k < b.length := by have := HNB.out; omega
        have i1 := fun wx => ix_bk a k hka wx
        have i2 := fun wx => ix_bk b k hkb wx
        have he := eq_u8 a[k] b[k]
        have HT := hide (show a[k] = b[k] → k + 1 ≤ cmn a b from fun e => cmn_step hc.out hka hkb e)
        have HS := hide (show ¬ a[k] = b[k] → cmn a b = k from fun e => cmn_stop hc.out (fun _ _ => e))
        generalize a[k] = x at *
        generalize b[k] = y at *
        clear hka hkb
        by_cases hxy : x = y
        · rw [decide_eq_true hxy] at he
          have HC := hide (HT.out hxy)
          clear hxy HT HS
          go_wp2
          go_quiet (fail)
          go_wp2
          go_roundw
          case rel => exact ⟨k + 1, by omega, by omega, by go_num, HC, belowX_drewN hbel _⟩
          case measure => simp only [intOf]; omega
        · rw [decide_eq_false hxy] at he
          have HC := hide (HS.out hxy)
          clear hxy HT HS
          go_wp2
          go_quiet (fail)
          go_wp2
          go_ret
          exact ⟨ret_i64B (by rw [HC.out]), belowX_drewN hbel _⟩
      · have hd : decide ((k : Int) < nb) = false := by simpa using (by omega : ¬ (k : Int) < nb)
        have HC := hide (show cmn a b = k from cmn_stop hc.out (fun h1 h2 => by have := HNA.out; have := HNB.out; omega))
        go_wp2
        go_quiet (fail)
        go_wp2
        go_ret
        exact ⟨ret_i64B (by rw [HC.out]), belowX_drewN hbel _⟩
    · have hd : decide ((k : Int) < na) = false := by simpa using (by omega : ¬ (k : Int) < na)
      have HC := hide (show cmn a b = k from cmn_stop hc.out (fun h1 h2 => by have := HNA.out; have := HNB.out; omega))
      go_wp2
      go_quiet (fail)
      go_wp2
      go_ret
      exact ⟨ret_i64B (by rw [HC.out]), belowX_drewN hbel _⟩

set_option maxRecDepth 100000 in
theorem byteOf_bk (d : Bool) (w : World) : Calls Try.prog 82 #[.bool d] w fun e w' => e = .returned (.int .u8 (if d then 1 else 0)) ∧ w' = w := by
  cases d
  · go_enter Try.func82, Try.ntmps82
    go_wp2
    go_ret
    exact ⟨by simp, rfl⟩
  · go_enter Try.func82, Try.ntmps82
    go_wp2
    go_ret
    exact ⟨by simp, rfl⟩

set_option maxRecDepth 100000 in
theorem rkey_bk (k : List UInt8) (w : World) : Calls Try.prog 63 #[.string (bs k)] w fun e w' => e = .returned (.bool (decide (1 ≤ k.length) && decide (k.length ≤ 64))) ∧ w' = w := by
  have hs1 := bs_size k
  obtain ⟨n, hn⟩ : ∃ n, n = k.length := ⟨_, rfl⟩
  rw [← hn] at hs1 ⊢
  clear hn
  have e1 : decide ((1 : Int) ≤ n) = decide (1 ≤ n) := by rw [decide_eq_decide]; omega
  have e2 : decide ((n : Int) ≤ 64) = decide (n ≤ 64) := by rw [decide_eq_decide]; omega
  by_cases h : 1 ≤ n
  · have h' : (1 : Int) ≤ n := by omega
    have HE := hide (show decide (1 ≤ n) = true from decide_eq_true h)
    clear e1
    generalize decide (n ≤ 64) = z at *
    go_enter Try.func63, Try.ntmps63
    go_wp2
    go_ret
    exact ⟨ret_boolB (by rw [HE.out]; simp), rfl⟩
  · have h' : decide ((1 : Int) ≤ n) = false := by simpa using (by omega : ¬ (1 : Int) ≤ n)
    have HE := hide (show decide (1 ≤ n) = false from decide_eq_false h)
    clear e1 e2
    go_enter Try.func63, Try.ntmps63
    go_wp2
    go_ret
    exact ⟨ret_boolB (by rw [HE.out]; simp), rfl⟩
end Go.Proofs.Ytjkoemdojdcmpaa
