/-
  What code.Small and the document's Small do: each answers a number's small bytes, in new memory.
-/
import Derived.Test.YtlibnefibeikcaaSBlk
import Derived.Test.YtlibnefibeikcaaRmMay
import Derived.Test.YtlibnefibeikcaaMathRd
import Derived.Test.YtlibnefibeikcaaRows
import Derived.Test.YtlibnefibeikcaaKit
import Derived.Test.YtlibnefibeikcaaBase
import Derived.WalkKit
import Derived.WalkSpells
import Derived.WalkLawsBesides
namespace Go.Proofs.Ytlibnefibeikcaa
open Go.RowKit
set_option linter.unusedVariables false
set_option linter.unusedSimpArgs false

def accS (d : Dk) : Nat → Nat × Nat
  | 0 => (0, 0)
  | k + 1 => laterS (accS d k) (lastS d k)
set_option maxHeartbeats 1000000 in
set_option maxRecDepth 100000 in
theorem lasting_any {d : Dk} {v : Value} (k : Nat) (w : World) (hD : RdD w v d) (hok : okD d = true) (hm : 34 < mny d) (hk : k < 2) :
    Calls Try.prog 28 #[v, .int .i64 k] w fun e w' => e = .returned (.tuple #[.int .u32 (lastS d k).1, .int .i64 (lastS d k).2]) ∧ Below w.heap.size w w' := by
  obtain ⟨a1, c1, a2, c2, a3, c3, rfl, h1, h2, _⟩ := hD.form
  obtain ⟨hlen, -, hm2, -⟩ := (okD_iff d).1 hok
  have hl1 : d.1.length = 128 * mny d := by unfold mny; omega
  have hkl : (k + 1) * 128 ≤ d.1.length := by omega
  obtain ⟨b9, o9, rfl, -, hnc, hrd⟩ := rd_sub h1 (k * 128) ((k + 1) * 128) (by omega) hkl
  have eb : (d.1.drop (k * 128)).take ((k + 1) * 128 - k * 128) = blk d.1 k := by
    unfold blk; rw [show (k + 1) * 128 - k * 128 = 128 by omega, Nat.mul_comm]
  rw [eb] at hrd
  have hx : (k + 1) * 128 - k * 128 = 128 := by omega
  rw [hx] at hrd
  have HRD := hide hrd
  generalize e1 : d.1.length = n1 at *
  generalize e2 : d.2.1.length = n2 at *
  generalize e3 : d.2.2.length = n3 at *
  have hh3 : (k + 1) * 128 ≤ c1 := by omega
  have hh2 : ¬ k * 128 = c1 := by omega
  clear hD h1 h2 hrd eb hlen hl1 hm hm2 e1 e2 e3
  obtain ⟨hw1, hw2, hw3⟩ := wrapk k (by omega)
  obtain ⟨w1, ew⟩ : ∃ w1, w.alloc (.cells #[.slice (some ⟨b9, o9, none⟩) n1 c1, .slice a2 n2 c2, .slice a3 n3 c3] 26) = w1 := ⟨_, rfl⟩
  have hb1 : Below w.heap.size w w1 := by rw [← ew]; exact (Below.refl _ _).alloc (Nat.le_refl _) _
  have k0 : w1.cell? ⟨w.heap.size, 0, none⟩ = some (.slice (some ⟨b9, o9, none⟩) n1 c1) := by rw [← ew]; simp
  obtain ⟨r, er⟩ : ∃ r, r = ofS (blk d.1 k) := ⟨_, rfl⟩
  have HER := hide er
  have hr1 : r.1 < 4294967296 := by rw [er]; exact (ofS_lt _).1
  clear er
  go_enter Try.func28, Try.ntmps28
  go_wp2_with fail
  refine (sof_any (blk d.1 k) _ _ (HRD.out.carry hb1)).mono ?_
  rintro e w2 ⟨rfl, hb2⟩
  have hB2 : Below w.heap.size w w2 := hb1.trans (hb2.mono hb1.size)
  rw [← HER.out]
  clear ew k0 hb1 hb2 hw1 hw2 hw3 hh2 hh3 hx hnc hkl
  go_wp2_with fail
  refine (swhere_any r.1 _ hr1).mono ?_
  rintro e w3 ⟨rfl, rfl⟩
  by_cases hp : r.1 % 2 = k
  · have HE := hide (show lastS d k = (r.1, r.2.1) by unfold lastS; rw [← HER.out, if_pos hp])
    have hp' : ((r.1 % 2 : Nat) : Int) = k := by omega
    clear hp
    go_wp2
    go_ret2
    rw [HE.out]
    exact ⟨rfl, hB2⟩
  · have HE := hide (show lastS d k = (0, 0) by unfold lastS; rw [← HER.out, if_neg hp])
    have hp' : ¬ ((r.1 % 2 : Nat) : Int) = k := by omega
    clear hp
    go_wp2
    go_ret2
    rw [HE.out]
    exact ⟨rfl, hB2⟩

set_option maxHeartbeats 1000000 in
set_option maxRecDepth 100000 in
theorem slatest_any {d : Dk} {v : Value} (w : World) (hD : RdD w v d) :
    Calls Try.prog 14 #[v] w fun e w' => e = .returned (.tuple #[.int .u32 (latestS d).1, .int .i64 (latestS d).2.1, .int .i64 (latestS d).2.2]) ∧ Below w.heap.size w w' := by
  obtain ⟨a1, c1, a2, c2, a3, c3, rfl, _, _, _⟩ := hD.form
  have HD := hide hD
  clear hD
  generalize e1 : d.1.length = n1 at *
  generalize e2 : d.2.1.length = n2 at *
  generalize e3 : d.2.2.length = n3 at *
  clear e1 e2 e3
  obtain ⟨w1, ew⟩ : ∃ w1, w.alloc (.cells #[.slice a1 n1 c1, .slice a2 n2 c2, .slice a3 n3 c3] 26) = w1 := ⟨_, rfl⟩
  have hb1 : Below w.heap.size w w1 := by rw [← ew]; exact (Below.refl _ _).alloc (Nat.le_refl _) _
  have k0 : w1.cell? ⟨w.heap.size, 0, none⟩ = some (.slice a1 n1 c1) := by rw [← ew]; simp
  have k1 : w1.cell? ⟨w.heap.size, 1, none⟩ = some (.slice a2 n2 c2) := by rw [← ew]; simp
  have k2 : w1.cell? ⟨w.heap.size, 2, none⟩ = some (.slice a3 n3 c3) := by rw [← ew]; simp
  go_enter Try.func14, Try.ntmps14
  go_wp2_with fail
  refine (many_any (d := d) _ (HD.out.carry hb1)).mono ?_
  rintro e w2 ⟨rfl, hb2⟩
  have hB2 : Below w.heap.size w w2 := hb1.trans (hb2.mono hb1.size)
  have k0' := keeps_cell _ _ _ _ k0 hb2
  have k1' := keeps_cell _ _ _ _ k1 hb2
  have k2' := keeps_cell _ _ _ _ k2 hb2
  clear ew k0 k1 k2 hb1 hb2
  rcases chk_cases d with ⟨hok, hck⟩ | ⟨hok, hck⟩
  · have hmd : manyD d = ((mny d : Int), 0) := by unfold manyD; rw [if_neg (by rw [hck]; decide)]
    rw [hmd]
    obtain ⟨q, eq⟩ : ∃ q, q = mny d := ⟨_, rfl⟩
    rw [← eq]
    have HQ := hide eq
    have HCK := hide hck
    have HOK := hide hok
    clear hmd eq hck hok
    by_cases hq : q ≤ 34
    · have HE := hide (show latestS d = (0, 0, 70) by unfold latestS; rw [if_neg (by rw [HCK.out]; decide), if_pos (by rw [← HQ.out]; exact hq)])
      have hq' : (q : Int) ≤ 34 := by omega
      go_wp2
      go_ret3
      rw [HE.out]
      exact ⟨rfl, hB2⟩
    · have HE := hide (show latestS d = if (accS d 2).1 = 0 then (0, 0, 70) else ((accS d 2).1, (accS d 2).2, 0) by unfold latestS; rw [if_neg (by rw [HCK.out]; decide), if_neg (by rw [← HQ.out]; exact hq)]; rfl)
      have hq' : decide ((q : Int) ≤ 34) = false := by simpa using (by omega : ¬ (q : Int) ≤ 34)
      have HM := hide (show 34 < mny d by rw [← HQ.out]; omega)
      clear hq
      go_wp2
      clear hq'
      go_loopw [2, 3, 19] (fun g s i wr => ∃ k : Nat, k ≤ 2 ∧ i = .int .i64 k ∧ g = .int .u32 (accS d k).1 ∧ s = .int .i64 (accS d k).2 ∧ Below w2.heap.size w2 wr) (fun _ _ i _ => 2 - (intOf i).toNat)
      case atStart => exact ⟨0, Nat.zero_le _, rfl, rfl, rfl, Below.refl _ _⟩
      case round =>
        obtain ⟨k, hk, rfl, rfl, rfl, hbr⟩ := hrel
        have hBr : Below w.heap.size w wr := hB2.trans (hbr.mono hB2.size)
        obtain ⟨r, er⟩ : ∃ r, r = accS d k := ⟨_, rfl⟩
        rw [← er]
        have HR := hide er
        clear er
        by_cases hlt : k < 2
        · have hlt' : (k : Int) < 2 := by omega
          have l0 := keeps_cell _ _ _ _ k0' hbr
          have l1 := keeps_cell _ _ _ _ k1' hbr
          have l2 := keeps_cell _ _ _ _ k2' hbr
          go_wp2_with fail
          refine (lasting_any (d := d) k _ (HD.out.carry hBr) HOK.out HM.out hlt).mono ?_
          rintro e w3 ⟨rfl, hb3⟩
          obtain ⟨s, es⟩ : ∃ s, s = lastS d k := ⟨_, rfl⟩
          rw [← es]
          have HS := hide es
          have hb3' : Below w2.heap.size w2 w3 := hbr.trans (hb3.mono hbr.size)
          clear es hb3 l0 l1 l2
          by_cases hgt : r.1 < s.1
          · have hgt' : (r.1 : Int) < s.1 := by omega
            have HA := hide (show accS d (k + 1) = s by show laterS (accS d k) (lastS d k) = s; rw [← HR.out, ← HS.out]; unfold laterS; rw [if_pos hgt])
            go_wp2
            go_roundw
            case rel => exact ⟨k + 1, by omega, by go_num, by rw [HA.out], by rw [HA.out], hb3'⟩
            case measure => simp [intOf] <;> omega
          · have hgt' : decide ((r.1 : Int) < s.1) = false := by simpa using (by omega : ¬ (r.1 : Int) < s.1)
            have HA := hide (show accS d (k + 1) = r by show laterS (accS d k) (lastS d k) = r; rw [← HR.out, ← HS.out]; unfold laterS; rw [if_neg hgt])
            go_wp2
            go_roundw
            case rel => exact ⟨k + 1, by omega, by go_num, by rw [HA.out], by rw [HA.out], hb3'⟩
            case measure => simp [intOf] <;> omega
        · have hlt' : decide ((k : Int) < 2) = false := by simpa using (by omega : ¬ (k : Int) < 2)
          obtain rfl : k = 2 := by omega
          rw [← HR.out] at HE
          by_cases hz : r.1 = 0
          · have HE' := hide (HE.out.trans (if_pos hz))
            have hz' : (r.1 : Int) = 0 := by omega
            go_wp2
            go_ret3
            rw [HE'.out]
            exact ⟨rfl, hBr⟩
          · have HE' := hide (HE.out.trans (if_neg hz))
            have hz' : ¬ (r.1 : Int) = 0 := by omega
            clear hz
            go_wp2
            go_ret3
            rw [HE'.out]
            exact ⟨rfl, hBr⟩
  · have hmd : manyD d = (0, 20) := by unfold manyD; rw [if_pos (by rw [hck]; decide), hck]
    rw [hmd]
    have HE := hide (show latestS d = (0, 0, 20) by unfold latestS; rw [if_pos (by rw [hck]; decide), hck])
    clear hck hok hmd
    go_wp2
    go_ret3
    rw [HE.out]
    exact ⟨rfl, hB2⟩

end Go.Proofs.Ytlibnefibeikcaa
namespace Go.Proofs.Ytlibnefibeikcaa
open Go.RowKit
set_option linter.unusedVariables false
set_option linter.unusedSimpArgs false

theorem run_appE {P : Program} {o : Oper} {a : Act} {s x : Operand} {t : TypeId} {v y v' : Value} {w w' : World} (ho : o.op = .call { callee := .builtin .append, args := #[s, x], argTypes := #[t, t] }) (hs : a.eval s = v) (hx : a.eval x = y) (hrun : (Builtin.append_ #[t, t] o.type #[v, y]).run P w = .ok v' w') :
    (execOp a.eval o).run P w = .ok (.value v') w' := by
  simp [execOp, ho, resolve, invoke, builtin, hs, hx, hrun, Result.andThen]

set_option maxHeartbeats 1000000 in
theorem same_ext (a b : Option Addr) (n c m d : Nat) (l k : List Ex) (w : World) (h1 : RdE w (.slice a n c) l) (h2 : RdE w (.slice b m d) k) (hn : n = l.length) (hm : m = k.length) :
    Calls Try.prog 62 #[.slice a n c, .slice b m d] w fun e w' => e = .returned (.bool (decide (l = k))) ∧ Below w.heap.size w w' := by
  have hnm : n ≤ maxLen := hn ▸ h1.len_le
  unfold maxLen at hnm
  have H1 := hide h1
  have H2 := hide h2
  have HN := hide hn
  have HM := hide hm
  clear h1 h2 hn hm
  by_cases g1 : n = m
  · subst g1
    go_enter Try.func62, Try.ntmps62
    go_wp2
    go_loopw [5] (fun i wr => ∃ j : Nat, j ≤ n ∧ i = .int .i64 j ∧ Hid (l.take j = k.take j) ∧ Below w.heap.size w wr) (fun i _ => n - (intOf i).toNat)
    case atStart => exact ⟨0, Nat.zero_le _, rfl, hide (by simp), Below.refl _ _⟩
    case round =>
      obtain ⟨j, hj, rfl, he, hbel⟩ := hrel
      by_cases hlt : j < n
      · have hlt' : (j : Int) < n := by omega
        have hjl : j < l.length := by have := HN.out; omega
        have hjk : j < k.length := by have := HM.out; omega
        obtain ⟨b1, off1, rfl, q0, q1⟩ := (H1.out.carry hbel).at j hjl
        obtain ⟨b2, off2, rfl, p0, p1⟩ := (H2.out.carry hbel).at j hjk
        have hw1 : wrap64 ((j : Int) + 1) = (j : Int) + 1 := by unfold wrap64; omega
        by_cases hx : l[j] = k[j]
        · have HE := hide (show l.take (j + 1) = k.take (j + 1) by rw [take_snoc l j hjl, take_snoc k j hjk, he.out, hx])
          rw [hx] at q0 q1
          clear hx
          go_wp2
          go_quiet (fail)
          go_wp2
          go_roundw
          case rel => exact ⟨j + 1, by omega, rfl, HE, below_drewN hbel _⟩
          case measure => simp only [intOf]; omega
        · have HE := hide (show decide (l = k) = false by
            rw [decide_eq_false_iff_not]
            rintro rfl
            exact hx rfl)
          have hne : ¬ ((l[j]).1 = (k[j]).1 ∧ (l[j]).2 = (k[j]).2) := fun h => hx (Prod.ext h.1 h.2)
          clear hx
          generalize (l[j]).1 = z1 at *
          generalize (l[j]).2 = z2 at *
          generalize (k[j]).1 = z3 at *
          generalize (k[j]).2 = z4 at *
          by_cases hz : z1 = z3
          · subst hz
            have hne1 : ¬ z2 = z4 := fun h => hne ⟨rfl, h⟩
            have hne' : (z2 == z4) = false := by simpa using hne1
            clear hne
            go_wp2
            go_quiet (fail)
            go_wp2
            go_ret
            exact ⟨by rw [HE.out]; rfl, below_drewN hbel _⟩
          · have hne' : (z1 == z3) = false := by simpa using hz
            clear hne
            go_wp2
            go_quiet (fail)
            go_wp2
            go_ret
            exact ⟨by rw [HE.out]; rfl, below_drewN hbel _⟩
      · have hd : decide ((j : Int) < n) = false := by simpa using (by omega : ¬ (j : Int) < n)
        have HE := hide (show decide (l = k) = true by
          rw [decide_eq_true_iff]
          have := he.out
          rwa [List.take_of_length_le (by have := HN.out; omega), List.take_of_length_le (by have := HM.out; omega)] at this)
        go_wp2
        go_ret
        exact ⟨by rw [HE.out]; rfl, hbel⟩
  · have HE := hide (show decide (l = k) = false by
      rw [decide_eq_false_iff_not]
      rintro rfl
      have := HN.out
      have := HM.out
      omega)
    have g1' : ((n : Int) == (m : Int)) = false := by simpa using (by omega : ¬ (n : Int) = m)
    go_enter Try.func62, Try.ntmps62
    go_wp2
    go_ret
    exact ⟨by rw [HE.out]; rfl, Below.refl _ _⟩

end Go.Proofs.Ytlibnefibeikcaa
namespace Go.Proofs.Ytlibnefibeikcaa
open Go.RowKit

set_option maxHeartbeats 400000 in
set_option maxRecDepth 100000 in
theorem small_any (n : Nat) (w : World) (hn : n < 18446744073709551616) :
    Calls Try.prog 87 #[.int .u64 n] w fun e w' => ∃ v, e = .returned v ∧ w'.ownsRow w.heap.size 5 1 v (sm n).length (u8v (sm n)) ∧ Below w.heap.size w w' := by
  have hl10 := sm_len_le10 hn
  go_enter Try.func87, Try.ntmps87
  go_wp2
  go_loopw [0, 3] (fun x v wr => ∃ (m : Nat) (pre : List UInt8), m ≤ n ∧ x = .int .u64 m ∧ sm n = pre ++ sm m ∧ wr.ownsRow w.heap.size 5 1 v pre.length (u8v pre) ∧ Below w.heap.size w wr)
    (fun x _ _ => (intOf x).toNat)
  case atStart => exact ⟨n, [], Nat.le_refl _, rfl, rfl, World.ownsRow_nil _ _ _ _, Below.refl _ _⟩
  case round =>
    obtain ⟨m, pre, hm, rfl, hpre, hown, hbel⟩ := hrel
    have HP : Hid (sm n = pre ++ sm m) := hpre
    have hlp : pre.length ≤ 10 := by have := congrArg List.length hpre; simp at this; omega
    clear hpre
    by_cases hlt : 128 ≤ m
    · go_wp2_with (at_builtin; go_must (refine wpList_app1 w wr rfl (.tmp 8) (.tmp 12) 22 rfl w.heap.size 5 Try.underlying22 Try.infoB _ pre hown rfl hbel (Nat.le_refl _) _ _ (or128 m) rfl (by omega) ?_); intro v' w1 hown1 hbel1)
      go_roundw
      case rel => exact ⟨m / 128, pre ++ [UInt8.ofNat (m % 128 + 128)], by omega, by go_num, by rw [HP.out, sm_ge hlt]; simp, hown1, hbel1⟩
      case measure => simp [intOf] <;> omega
    · go_wp2_with (at_builtin; go_must (refine wpList_app1 w wr rfl (.tmp 14) (.tmp 17) 22 rfl w.heap.size 5 Try.underlying22 Try.infoB _ pre hown rfl hbel (Nat.le_refl _) _ (UInt8.ofNat m) (by first | exact u8_mod m | exact u8_id m (by omega)) rfl (by omega) ?_); intro v' w1 hown1 hbel1)
      go_ret
      have e : sm n = pre ++ [UInt8.ofNat m] := by rw [HP.out, sm_lt (by omega)]
      rw [e]
      exact ⟨_, rfl, hown1, hbel1⟩

set_option maxHeartbeats 400000 in
set_option maxRecDepth 100000 in
theorem rsmall_any (n : Nat) (w : World) (hn : n < 18446744073709551616) :
    Calls Try.prog 60 #[.int .u64 n] w fun e w' => ∃ v, e = .returned v ∧ w'.ownsRow w.heap.size 5 1 v (sm n).length (u8v (sm n)) ∧ Below w.heap.size w w' := by
  have hl10 := sm_len_le10 hn
  go_enter Try.func60, Try.ntmps60
  go_wp2
  go_loopw [0, 3] (fun x v wr => ∃ (m : Nat) (pre : List UInt8), m ≤ n ∧ x = .int .u64 m ∧ sm n = pre ++ sm m ∧ wr.ownsRow w.heap.size 5 1 v pre.length (u8v pre) ∧ Below w.heap.size w wr)
    (fun x _ _ => (intOf x).toNat)
  case atStart => exact ⟨n, [], Nat.le_refl _, rfl, rfl, World.ownsRow_nil _ _ _ _, Below.refl _ _⟩
  case round =>
    obtain ⟨m, pre, hm, rfl, hpre, hown, hbel⟩ := hrel
    have HP : Hid (sm n = pre ++ sm m) := hpre
    have hlp : pre.length ≤ 10 := by have := congrArg List.length hpre; simp at this; omega
    clear hpre
    by_cases hlt : 128 ≤ m
    · go_wp2_with (at_builtin; go_must (refine wpList_app1 w wr rfl (.tmp 6) (.tmp 11) 22 rfl w.heap.size 5 Try.underlying22 Try.infoB _ pre hown rfl hbel (Nat.le_refl _) _ (UInt8.ofNat (m % 128 + 128)) (by rw [UInt8.toNat_ofNat']; omega) rfl (by omega) ?_); intro v' w1 hown1 hbel1)
      go_roundw
      case rel => exact ⟨m / 128, pre ++ [UInt8.ofNat (m % 128 + 128)], by omega, by go_num, by rw [HP.out, sm_ge hlt]; simp, hown1, hbel1⟩
      case measure => simp [intOf] <;> omega
    · go_wp2_with (at_builtin; go_must (refine wpList_app1 w wr rfl (.tmp 15) (.tmp 18) 22 rfl w.heap.size 5 Try.underlying22 Try.infoB _ pre hown rfl hbel (Nat.le_refl _) _ (UInt8.ofNat m) (by first | exact u8_mod m | exact u8_id m (by omega)) rfl (by omega) ?_); intro v' w1 hown1 hbel1)
      go_ret
      have e : sm n = pre ++ [UInt8.ofNat m] := by rw [HP.out, sm_lt (by omega)]
      rw [e]
      exact ⟨_, rfl, hown1, hbel1⟩

end Go.Proofs.Ytlibnefibeikcaa
