/-
  What code.Text, code.Cut, bytes.Clone and the document's Text and Cut do.
-/
import Derived.Test.YtabaomacfijppaaGreatRmTop
import Derived.Test.YtabaomacfijppaaGreatRows
import Derived.Test.YtabaomacfijppaaGreatMathRm
import Derived.WalkKit
import Derived.WalkSpells
import Derived.WalkLawsBesides
import Derived.Deep.QuietTactic
import Derived.BigQuiet
import Derived.Deep.RegionHeld3
import Derived.Lib.SliceRun
namespace Go.Proofs.YtabaomacfijppaaGreat
open Go.RowKit
set_option linter.unusedVariables false
set_option linter.unusedSimpArgs false

theorem apX_next {l : List Ex} {k : Nat} (hk : k < l.length) (hm : ∀ x ∈ l, mayX x = true) (h : apX (l.take k) = true) (hn : ∀ n : Nat, inL (l.take k) n = true → inX l[k] n = false) : apX (l.take (k + 1)) = true := by
  rw [take_snoc l k hk, apX_snoc, h, Bool.true_and, List.all_eq_true]
  intro y hy
  have hyl : y ∈ l := List.mem_of_mem_take hy
  have my := (mayX_iff y).1 (hm y hyl)
  have mk := (mayX_iff _).1 (hm _ (List.getElem_mem hk))
  rw [Bool.not_eq_true', ← Bool.not_eq_true, meetX_in mk.2.1 my.2.1]
  rintro ⟨n, h1, h2⟩
  have h0 : 0 ≤ n := by simp [inX] at h2; omega
  have := hn n.toNat (by rw [Int.toNat_of_nonneg h0, inL_iff]; exact ⟨y, hy, by simpa [inX] using h2⟩)
  rw [Int.toNat_of_nonneg h0, h1] at this
  cases this
theorem apX_hit {l : List Ex} {k : Nat} (hk : k < l.length) (hm : ∀ x ∈ l, mayX x = true) {n : Nat} (h1 : inL (l.take k) n = true) (h2 : inX l[k] n = true) : apX (l.take (k + 1)) = false := by
  rw [take_snoc l k hk, apX_snoc, Bool.and_eq_false_iff]
  right
  rw [List.all_eq_false]
  obtain ⟨y, hy, h3⟩ := (inL_iff _ _).1 h1
  have my := (mayX_iff y).1 (hm y (List.mem_of_mem_take hy))
  have mk := (mayX_iff _).1 (hm _ (List.getElem_mem hk))
  refine ⟨y, hy, ?_⟩
  rw [(meetX_in mk.2.1 my.2.1).2 ⟨n, h2, by simpa [inX] using h3⟩]; simp

set_option maxHeartbeats 1000000 in
theorem check_ext (a : Option Addr) (n c : Nat) (l : List Ex) (w : World) (hrd : RdE w (.slice a n c) l) (hn : n = l.length) (hwf : ∀ x ∈ l, wfX x) :
    Calls Tryz.prog 197 #[.slice a n c] w fun e w' => e = .returned (.int .i64 (chkX l)) ∧ Below w.heap.size w w' := by
  have HR := hide hrd
  have HN := hide hn
  have HA := hide (allMayBe_any a n c l w hrd hn hwf)
  clear hrd hn hwf
  go_enter Tryz.func197, Tryz.ntmps197
  go_wp2_with fail
  refine HA.out.mono ?_
  rintro e wa ⟨rfl, hba⟩
  by_cases hz : allX l = 0
  · have HZ := hide hz
    rw [hz]
    have hzero := Tryz.zeroMk
    have hne := mkC_ne (fun _ => false)
    have hn4 : n ≤ 4096 := by have := (allX_ok HZ.out).1; have := HN.out; omega
    have HMay := hide (fun x hx => (mayX_iff x).2 ((allX_ok HZ.out).2 x hx) : ∀ x ∈ l, mayX x = true)
    have hws := hba.size
    clear hz
    go_wp2
    go_loopw [14] (fun i wr => ∃ k : Nat, k ≤ n ∧ i = .int .i64 k ∧ Hid (Mk wr wa.heap.size (fun j => inL (l.take k) j)) ∧ Hid (apX (l.take k) = true) ∧ Below w.heap.size w wr) (fun i _ => n - (intOf i).toNat)
    case atStart => exact ⟨0, Nat.zero_le _, rfl, hide ((Mk.new wa _).same fun j => by simp [inL]), hide (by simp [apX]), hba.alloc hws _⟩
    case round =>
      obtain ⟨k, hk, rfl, hmk, hap, hbel⟩ := hrel
      have hml := hmk.out.lt
      by_cases hlt : k < n
      · have hlt' : (k : Int) < n := by omega
        have hkl : k < l.length := by have := HN.out; omega
        obtain ⟨b, off, rfl, q0, q1⟩ := (HR.out.carry hbel).at k hkl
        go_wp2_with fail
        refine (markNew_any wa.heap.size _ (l[k]) (HMay.out _ (List.getElem_mem hkl)) _ (hmk.out.carry ((Below.refl _ _).alloc (Nat.le_refl _) _))).mono ?_
        rintro e wc ⟨hg, ⟨rfl, hm1, hno⟩ | ⟨rfl, j, -, hj1, hj2⟩⟩
        · have HM1 := hide (hm1.same (g := fun j => inL (l.take (k + 1)) j) fun j => by rw [take_snoc l k hkl, inL_snoc])
          have HAP := hide (apX_next hkl HMay.out hap.out hno)
          have hbc : Below w.heap.size w wc := (hbel.alloc hbel.size _).grown hg (Nat.le_trans hbel.size (by simp)) (fun j hj => by cases hj; exact hws)
          clear hm1 hg hno
          go_wp2
          go_roundw
          case rel => exact ⟨k + 1, by omega, rfl, HM1, HAP, hbc⟩
          case measure => simp only [intOf]; omega
        · have HC := hide (chkX_apart (k := k + 1) hkl HZ.out (apX_hit hkl HMay.out hj1 hj2))
          have hbc : Below w.heap.size w wc := (hbel.alloc hbel.size _).grown hg (Nat.le_trans hbel.size (by simp)) (fun j hj => by cases hj; exact hws)
          clear hg hj1 hj2
          go_wp2
          go_ret
          exact ⟨by rw [HC.out]; rfl, hbc⟩
      · have hd : decide ((k : Int) < n) = false := by simpa using (by omega : ¬ (k : Int) < n)
        have HC := hide (chkX_good HZ.out (by have := hap.out; rwa [List.take_of_length_le (by have := HN.out; omega)] at this))
        go_wp2
        go_ret
        exact ⟨by rw [HC.out]; rfl, hbel⟩
  · have HC := hide (chkX_all hz)
    generalize hE : allX l = E at *
    have hz' : (E == 0) = false := by simpa using hz
    go_wp2
    go_ret
    exact ⟨by rw [HC.out]; rfl, hba⟩

end Go.Proofs.YtabaomacfijppaaGreat
namespace Go.Proofs.YtabaomacfijppaaGreat
open Go.RowKit
set_option linter.unusedVariables false
set_option linter.unusedSimpArgs false

theorem run_appE {P : Program} {o : Oper} {a : Act} {s x : Operand} {t : TypeId} {v y v' : Value} {w w' : World} (ho : o.op = .call { callee := .builtin .append, args := #[s, x], argTypes := #[t, t] }) (hs : a.eval s = v) (hx : a.eval x = y) (hrun : (Builtin.append_ #[t, t] o.type #[v, y]).run P w = .ok v' w') :
    (execOp a.eval o).run P w = .ok (.value v') w' := by
  simp [execOp, ho, resolve, invoke, builtin, hs, hx, hrun, Result.andThen]

set_option maxHeartbeats 1000000 in
theorem same_ext (a b : Option Addr) (n c m d : Nat) (l k : List Ex) (w : World) (h1 : RdE w (.slice a n c) l) (h2 : RdE w (.slice b m d) k) (hn : n = l.length) (hm : m = k.length) :
    Calls Tryz.prog 178 #[.slice a n c, .slice b m d] w fun e w' => e = .returned (.bool (decide (l = k))) ∧ Below w.heap.size w w' := by
  have hnm : n ≤ maxLen := hn ▸ h1.len_le
  unfold maxLen at hnm
  have H1 := hide h1
  have H2 := hide h2
  have HN := hide hn
  have HM := hide hm
  clear h1 h2 hn hm
  by_cases g1 : n = m
  · subst g1
    go_enter Tryz.func178, Tryz.ntmps178
    go_wp2
    go_loopw [5] (fun i wr => ∃ j : Nat, j ≤ n ∧ i = .int .i64 j ∧ Hid (l.take j = k.take j) ∧ Below w.heap.size w wr) (fun i _ => n - (intOf i).toNat)
    case atStart => exact ⟨0, Nat.zero_le _, rfl, hide (by simp), Below.refl _ _⟩
    case round =>
      obtain ⟨j, hj, rfl, he, hbel⟩ := hrel
      by_cases hlt : j < n
      · have hlt' : (j : Int) < n := by omega
        have hjl : j < l.length := by have := HN.out; omega
        have hjk : j < k.length := by have := HM.out; omega
        obtain ⟨b1, off1, rfl, q0, q1⟩ := (H1.out.carry hbel).at j hjl
        obtain ⟨b2, off2, rfl, p0, p1⟩ := (H2.out.carry hbel).at j hjk
        have hw1 : wrap64 ((j : Int) + 1) = (j : Int) + 1 := by unfold wrap64; omega
        by_cases hx : l[j] = k[j]
        · have HE := hide (show l.take (j + 1) = k.take (j + 1) by rw [take_snoc l j hjl, take_snoc k j hjk, he.out, hx])
          rw [hx] at q0 q1
          clear hx
          go_wp2
          go_quiet (fail)
          go_wp2
          go_roundw
          case rel => exact ⟨j + 1, by omega, rfl, HE, below_drewN hbel _⟩
          case measure => simp only [intOf]; omega
        · have HE := hide (show decide (l = k) = false by
            rw [decide_eq_false_iff_not]
            rintro rfl
            exact hx rfl)
          have hne : ¬ ((l[j]).1 = (k[j]).1 ∧ (l[j]).2 = (k[j]).2) := fun h => hx (Prod.ext h.1 h.2)
          clear hx
          generalize (l[j]).1 = z1 at *
          generalize (l[j]).2 = z2 at *
          generalize (k[j]).1 = z3 at *
          generalize (k[j]).2 = z4 at *
          by_cases hz : z1 = z3
          · subst hz
            have hne1 : ¬ z2 = z4 := fun h => hne ⟨rfl, h⟩
            have hne' : (z2 == z4) = false := by simpa using hne1
            clear hne
            go_wp2
            go_quiet (fail)
            go_wp2
            go_ret
            exact ⟨by rw [HE.out]; rfl, below_drewN hbel _⟩
          · have hne' : (z1 == z3) = false := by simpa using hz
            clear hne
            go_wp2
            go_quiet (fail)
            go_wp2
            go_ret
            exact ⟨by rw [HE.out]; rfl, below_drewN hbel _⟩
      · have hd : decide ((j : Int) < n) = false := by simpa using (by omega : ¬ (j : Int) < n)
        have HE := hide (show decide (l = k) = true by
          rw [decide_eq_true_iff]
          have := he.out
          rwa [List.take_of_length_le (by have := HN.out; omega), List.take_of_length_le (by have := HM.out; omega)] at this)
        go_wp2
        go_ret
        exact ⟨by rw [HE.out]; rfl, hbel⟩
  · have HE := hide (show decide (l = k) = false by
      rw [decide_eq_false_iff_not]
      rintro rfl
      have := HN.out
      have := HM.out
      omega)
    have g1' : ((n : Int) == (m : Int)) = false := by simpa using (by omega : ¬ (n : Int) = m)
    go_enter Tryz.func178, Tryz.ntmps178
    go_wp2
    go_ret
    exact ⟨by rw [HE.out]; rfl, Below.refl _ _⟩

end Go.Proofs.YtabaomacfijppaaGreat
namespace Go.Proofs.YtabaomacfijppaaGreat
open Go.RowKit

set_option maxHeartbeats 400000 in
set_option maxRecDepth 100000 in
theorem small_any (n : Nat) (w : World) (hn : n < 18446744073709551616) :
    Calls Tryz.prog 214 #[.int .u64 n] w fun e w' => ∃ v, e = .returned v ∧ w'.ownsRow w.heap.size 5 1 v (sm n).length (u8v (sm n)) ∧ Below w.heap.size w w' := by
  have hl10 := sm_len_le10 hn
  go_enter Tryz.func214, Tryz.ntmps214
  go_wp2
  go_loopw [0, 3] (fun x v wr => ∃ (m : Nat) (pre : List UInt8), m ≤ n ∧ x = .int .u64 m ∧ sm n = pre ++ sm m ∧ wr.ownsRow w.heap.size 5 1 v pre.length (u8v pre) ∧ Below w.heap.size w wr)
    (fun x _ _ => (intOf x).toNat)
  case atStart => exact ⟨n, [], Nat.le_refl _, rfl, rfl, World.ownsRow_nil _ _ _ _, Below.refl _ _⟩
  case round =>
    obtain ⟨m, pre, hm, rfl, hpre, hown, hbel⟩ := hrel
    have HP : Hid (sm n = pre ++ sm m) := hpre
    have hlp : pre.length ≤ 10 := by have := congrArg List.length hpre; simp at this; omega
    clear hpre
    by_cases hlt : 128 ≤ m
    · go_wp2_with (at_builtin; go_must (refine wpList_app1 w wr rfl (.tmp 8) (.tmp 12) 22 rfl w.heap.size 5 Tryz.underlying22 Tryz.infoB _ pre hown rfl hbel (Nat.le_refl _) _ _ (or128 m) rfl (by omega) ?_); intro v' w1 hown1 hbel1)
      go_roundw
      case rel => exact ⟨m / 128, pre ++ [UInt8.ofNat (m % 128 + 128)], by omega, by go_num, by rw [HP.out, sm_ge hlt]; simp, hown1, hbel1⟩
      case measure => simp [intOf] <;> omega
    · go_wp2_with (at_builtin; go_must (refine wpList_app1 w wr rfl (.tmp 14) (.tmp 17) 22 rfl w.heap.size 5 Tryz.underlying22 Tryz.infoB _ pre hown rfl hbel (Nat.le_refl _) _ (UInt8.ofNat m) (by first | exact u8_mod m | exact u8_id m (by omega)) rfl (by omega) ?_); intro v' w1 hown1 hbel1)
      go_ret
      have e : sm n = pre ++ [UInt8.ofNat m] := by rw [HP.out, sm_lt (by omega)]
      rw [e]
      exact ⟨_, rfl, hown1, hbel1⟩

set_option maxHeartbeats 400000 in
set_option maxRecDepth 100000 in
theorem rsmall_any (n : Nat) (w : World) (hn : n < 18446744073709551616) :
    Calls Tryz.prog 117 #[.int .u64 n] w fun e w' => ∃ v, e = .returned v ∧ w'.ownsRow w.heap.size 5 1 v (sm n).length (u8v (sm n)) ∧ Below w.heap.size w w' := by
  have hl10 := sm_len_le10 hn
  go_enter Tryz.func117, Tryz.ntmps117
  go_wp2
  go_loopw [0, 3] (fun x v wr => ∃ (m : Nat) (pre : List UInt8), m ≤ n ∧ x = .int .u64 m ∧ sm n = pre ++ sm m ∧ wr.ownsRow w.heap.size 5 1 v pre.length (u8v pre) ∧ Below w.heap.size w wr)
    (fun x _ _ => (intOf x).toNat)
  case atStart => exact ⟨n, [], Nat.le_refl _, rfl, rfl, World.ownsRow_nil _ _ _ _, Below.refl _ _⟩
  case round =>
    obtain ⟨m, pre, hm, rfl, hpre, hown, hbel⟩ := hrel
    have HP : Hid (sm n = pre ++ sm m) := hpre
    have hlp : pre.length ≤ 10 := by have := congrArg List.length hpre; simp at this; omega
    clear hpre
    by_cases hlt : 128 ≤ m
    · go_wp2_with (at_builtin; go_must (refine wpList_app1 w wr rfl (.tmp 6) (.tmp 11) 22 rfl w.heap.size 5 Tryz.underlying22 Tryz.infoB _ pre hown rfl hbel (Nat.le_refl _) _ (UInt8.ofNat (m % 128 + 128)) (by rw [UInt8.toNat_ofNat']; omega) rfl (by omega) ?_); intro v' w1 hown1 hbel1)
      go_roundw
      case rel => exact ⟨m / 128, pre ++ [UInt8.ofNat (m % 128 + 128)], by omega, by go_num, by rw [HP.out, sm_ge hlt]; simp, hown1, hbel1⟩
      case measure => simp [intOf] <;> omega
    · go_wp2_with (at_builtin; go_must (refine wpList_app1 w wr rfl (.tmp 15) (.tmp 18) 22 rfl w.heap.size 5 Tryz.underlying22 Tryz.infoB _ pre hown rfl hbel (Nat.le_refl _) _ (UInt8.ofNat m) (by first | exact u8_mod m | exact u8_id m (by omega)) rfl (by omega) ?_); intro v' w1 hown1 hbel1)
      go_ret
      have e : sm n = pre ++ [UInt8.ofNat m] := by rw [HP.out, sm_lt (by omega)]
      rw [e]
      exact ⟨_, rfl, hown1, hbel1⟩

end Go.Proofs.YtabaomacfijppaaGreat
namespace Go.Proofs.YtabaomacfijppaaGreat

def hv : List UInt8 → Nat
  | [] => 0
  | c :: r => c.toNat % 128 + 128 * hv r

theorem hv_snoc : ∀ (p : List UInt8) (c : UInt8), hv (p ++ [c]) = hv p + c.toNat % 128 * 128 ^ p.length
  | [], c => by simp [hv]
  | x :: p, c => by
    simp only [List.cons_append, hv, hv_snoc p c, List.length_cons, Nat.pow_succ, Nat.mul_add]
    rw [show c.toNat % 128 * (128 ^ p.length * 128) = 128 * (c.toNat % 128 * 128 ^ p.length) by rw [← Nat.mul_assoc, Nat.mul_comm]]
    omega
theorem hv_lt : ∀ p : List UInt8, hv p < 128 ^ p.length
  | [] => by simp [hv]
  | x :: p => by
    have := hv_lt p
    simp only [hv, List.length_cons, Nat.pow_succ]; omega

theorem rdGo_pre : ∀ (p r : List UInt8) (i acc : Nat), (∀ x ∈ p, 128 ≤ x.toNat) → i + p.length ≤ 9 → rdGo (p ++ r) i acc = rdGo r (i + p.length) (acc + hv p * 128 ^ i)
  | [], r, i, acc, _, _ => by simp [hv]
  | x :: p, r, i, acc, h, hl => by
    simp only [List.length_cons] at hl
    rw [List.cons_append, rdGo_more (by omega) (h x (by simp)), rdGo_pre p r (i + 1) _ (fun y hy => h y (by simp [hy])) (by omega)]
    congr 1
    · simp only [List.length_cons]; omega
    · simp only [hv, Nat.pow_succ, Nat.add_mul]
      rw [show 128 * hv p * 128 ^ i = hv p * (128 ^ i * 128) by rw [Nat.mul_comm 128 (hv p), Nat.mul_assoc, Nat.mul_comm 128]]
      omega

theorem rd_split (l : List UInt8) (k : Nat) (h9 : k ≤ 9) (hk : k ≤ l.length) (hp : ∀ j, (h : j < l.length) → j < k → 128 ≤ (l[j]).toNat) : rd l = rdGo (l.drop k) k (hv (l.take k)) := by
  have e : l = l.take k ++ l.drop k := (List.take_append_drop k l).symm
  have hlen : (l.take k).length = k := by simp; omega
  unfold rd
  rw [e, rdGo_pre _ _ _ _ (by
    intro x hx
    obtain ⟨j, hj, rfl⟩ := List.mem_iff_getElem.1 hx
    rw [hlen] at hj
    simp only [List.getElem_take]
    exact hp j (by omega) hj) (by omega)]
  rw [hlen]
  simp

theorem rd_end (l : List UInt8) (h10 : l.length ≤ 10) (hp : ∀ j, (h : j < l.length) → 128 ≤ (l[j]).toNat) : rd l = none := by
  by_cases h9 : l.length ≤ 9
  · rw [rd_split l l.length h9 (Nat.le_refl _) (fun j h _ => hp j h)]; simp [rdGo]
  · rw [rd_split l 9 (by omega) (by omega) (fun j h _ => hp j h), List.drop_eq_getElem_cons (by omega), rdGo_big (by have := hp 9 (by omega); omega)]
theorem rd_ten (l : List UInt8) (h10 : 10 ≤ l.length) (hp : ∀ j, (h : j < l.length) → j < 10 → 128 ≤ (l[j]).toNat) : rd l = none := by
  rw [rd_split l 9 (by omega) (by omega) (fun j h _ => hp j h (by omega)), List.drop_eq_getElem_cons (by omega), rdGo_big (by have := hp 9 (by omega) (by omega); omega)]
theorem rd_big (l : List UInt8) (h10 : 9 < l.length) (hp : ∀ j, (h : j < l.length) → j < 9 → 128 ≤ (l[j]).toNat) (hb : 1 < (l[9]).toNat) : rd l = none := by
  rw [rd_split l 9 (by omega) (by omega) (fun j h _ => hp j h (by omega)), List.drop_eq_getElem_cons (by omega), rdGo_big hb]
theorem rd_zero (l : List UInt8) (k : Nat) (hk : k < l.length) (h9 : k ≤ 9) (h0 : 0 < k) (hp : ∀ j, (h : j < l.length) → j < k → 128 ≤ (l[j]).toNat) (hb : (l[k]).toNat = 0) : rd l = none := by
  rw [rd_split l k h9 (by omega) hp, List.drop_eq_getElem_cons hk, rdGo_zero hb h0]

def hvd (l : List UInt8) (k j : Nat) : Nat := hv ((l.take (k + 1)).drop j)
theorem hvd_top (l : List UInt8) (k : Nat) : hvd l k (k + 1) = 0 := by
  unfold hvd; rw [List.drop_eq_nil_of_le (by simp; omega)]; rfl
theorem hvd_step (l : List UInt8) (k j : Nat) (hj : j ≤ k) (hk : k < l.length) : hvd l k j = (l[j]).toNat % 128 + 128 * hvd l k (j + 1) := by
  unfold hvd; rw [List.drop_eq_getElem_cons (by simp; omega)]; simp [hv]
theorem hvd_le (l : List UInt8) (k : Nat) (hk : k < l.length) : ∀ j, j ≤ k + 1 → hvd l k j ≤ hvd l k 0
  | 0, _ => Nat.le_refl _
  | j + 1, h => by
    have := hvd_le l k hk j (by omega)
    have := hvd_step l k j (by omega) hk
    omega
theorem hvd_zero (l : List UInt8) (k : Nat) (hk : k < l.length) : hvd l k 0 = hv (l.take k) + (l[k]).toNat % 128 * 128 ^ k := by
  unfold hvd
  rw [List.drop_zero, List.take_succ_eq_append_getElem hk, hv_snoc]
  simp [Nat.min_eq_left (show k ≤ l.length by omega)]
theorem hvd_bound (l : List UInt8) (k : Nat) (hk : k < l.length) (h9 : k ≤ 9) (hb : k = 9 → (l[k]).toNat ≤ 1) : hvd l k 0 < 18446744073709551616 := by
  rw [hvd_zero l k hk]
  have h1 := hv_lt (l.take k)
  have e : (l.take k).length = k := by simp; omega
  rw [e] at h1
  by_cases h : k = 9
  · have := hb h
    subst h
    have h2 : (l[9]).toNat % 128 * 128 ^ 9 ≤ 1 * 128 ^ 9 := Nat.mul_le_mul_right _ (by omega)
    omega
  · have h3 : 128 ^ k ≤ 128 ^ 8 := Nat.pow_le_pow_right (by decide) (by omega)
    have h2 : (l[k]).toNat % 128 * 128 ^ k ≤ 127 * 128 ^ 8 := Nat.mul_le_mul (by omega) h3
    omega
theorem rd_some (l : List UInt8) (k : Nat) (hk : k < l.length) (h9 : k ≤ 9) (hp : ∀ j, (h : j < l.length) → j < k → 128 ≤ (l[j]).toNat) (hlt : (l[k]).toNat < 128)
    (hb : k = 9 → (l[k]).toNat ≤ 1) (hz : ¬ (0 < k ∧ (l[k]).toNat = 0)) : rd l = some (hvd l k 0, k + 1) := by
  rw [rd_split l k h9 (by omega) hp, List.drop_eq_getElem_cons hk, rdGo_last (by intro h; have := hb h.1; omega) hlt (by omega), hvd_zero l k hk, Nat.mod_eq_of_lt hlt]

theorem rdGo_fits : ∀ (l : List UInt8) (i acc n k : Nat), i ≤ 9 → acc < 128 ^ i → rdGo l i acc = some (n, k) → i < k ∧ k ≤ i + l.length ∧ k ≤ 10 ∧ n < 18446744073709551616
  | [], i, acc, n, k, _, _, h => by simp [rdGo] at h
  | c :: r, i, acc, n, k, hi, ha, h => by
    rw [rdGo] at h
    split at h
    · simp at h
    · rename_i h9
      split at h
      · rename_i hge
        have hi9 : i ≠ 9 := by intro e; exact h9 ⟨e, by omega⟩
        have := rdGo_fits r (i + 1) _ n k (by omega) (acc_next ha) h
        simp only [List.length_cons]; omega
      · rename_i hlt
        split at h
        · simp at h
        · simp only [Option.some.injEq, Prod.mk.injEq] at h
          obtain ⟨rfl, rfl⟩ := h
          refine ⟨by omega, by simp only [List.length_cons]; omega, by omega, ?_⟩
          by_cases e : i = 9
          · subst e
            have h2 : c.toNat * 128 ^ 9 ≤ 1 * 128 ^ 9 := Nat.mul_le_mul_right _ (by omega)
            omega
          · have h3 : 128 ^ i ≤ 128 ^ 8 := Nat.pow_le_pow_right (by decide) (by omega)
            have h2 : c.toNat * 128 ^ i ≤ 127 * 128 ^ 8 := Nat.mul_le_mul (by omega) h3
            omega
theorem rd_fits {l : List UInt8} {n k : Nat} (h : rd l = some (n, k)) : 0 < k ∧ k ≤ l.length ∧ k ≤ 10 ∧ n < 18446744073709551616 := by
  have := rdGo_fits l 0 0 n k (by omega) (by decide) h
  omega

theorem rdGo_sm : ∀ (m : Nat) (r : List UInt8) (i acc : Nat), i ≤ 9 → m * 128 ^ i < 18446744073709551616 → (0 < i → 0 < m) → rdGo (sm m ++ r) i acc = some (acc + m * 128 ^ i, i + (sm m).length) := by
  intro m
  induction m using Nat.strongRecOn with
  | ind m ih =>
    intro r i acc hi hm h0
    by_cases hlt : m < 128
    · have e : (UInt8.ofNat m).toNat = m := by rw [UInt8.toNat_ofNat']; omega
      rw [sm_lt hlt]
      simp only [List.cons_append, List.nil_append, List.length_cons, List.length_nil]
      rw [rdGo_last (by
        rw [e]; rintro ⟨rfl, h1⟩
        have : 2 * 128 ^ 9 ≤ m * 128 ^ 9 := Nat.mul_le_mul_right _ (by omega)
        omega) (by omega) (by rw [e]; intro h; have := h0 h.2; omega), e]
    · have e : (UInt8.ofNat (m % 128 + 128)).toNat = m % 128 + 128 := by rw [UInt8.toNat_ofNat']; omega
      have hi9 : i ≠ 9 := by
        rintro rfl
        have : 128 * 128 ^ 9 ≤ m * 128 ^ 9 := Nat.mul_le_mul_right _ (by omega)
        omega
      have hp : m / 128 * 128 ^ (i + 1) + m % 128 * 128 ^ i = m * 128 ^ i := by
        rw [Nat.pow_succ, Nat.mul_comm (128 ^ i) 128, ← Nat.mul_assoc, ← Nat.add_mul]
        congr 1; omega
      rw [sm_ge (by omega), List.cons_append, rdGo_more hi9 (by omega), e, ih (m / 128) (by omega) r (i + 1) _ (by omega) (by omega) (by omega)]
      rw [show (m % 128 + 128) % 128 = m % 128 by omega]
      simp only [List.length_cons, Option.some.injEq, Prod.mk.injEq]
      omega
theorem rd_sm (n : Nat) (hn : n < 18446744073709551616) (r : List UInt8) : rd (sm n ++ r) = some (n, (sm n).length) := by
  unfold rd; rw [rdGo_sm n r 0 0 (by omega) (by omega) (by omega)]; simp

def ct (l : List UInt8) : Option (List UInt8 × List UInt8) :=
  match rd l with
  | none => none
  | some (n, k) => if n ≤ l.length - k then some ((l.drop k).take n, l.drop (k + n)) else none
theorem ct_none {l : List UInt8} (h : rd l = none) : ct l = none := by simp [ct, h]
theorem ct_long {l : List UInt8} {n k : Nat} (h : rd l = some (n, k)) (hn : ¬ n ≤ l.length - k) : ct l = none := by simp [ct, h, hn]
theorem ct_some {l : List UInt8} {n k : Nat} (h : rd l = some (n, k)) (hn : n ≤ l.length - k) : ct l = some ((l.drop k).take n, l.drop (k + n)) := by simp [ct, h, hn]
def tx (s : List UInt8) : List UInt8 := sm s.length ++ s
theorem ct_tx (s r : List UInt8) (hs : s.length < 18446744073709551616) : ct (tx s ++ r) = some (s, r) := by
  have h := rd_sm s.length hs (s ++ r)
  unfold tx
  rw [List.append_assoc]
  rw [ct_some h (by simp)]
  simp [List.drop_append]

end Go.Proofs.YtabaomacfijppaaGreat
namespace Go.Proofs.YtabaomacfijppaaGreat
open Go.RowKit

set_option maxHeartbeats 400000 in
set_option maxRecDepth 100000 in
theorem read_nil (a : Option Addr) (c : Nat) (w : World) :
    Calls Tryz.prog 218 #[.slice a 0 c] w fun e w' => e = .returned (rdV none) ∧ w' = w := by
  go_enter Tryz.func218, Tryz.ntmps218
  go_wp2
  go_loop [5, 10] (fun n i => n = .int .u64 0 ∧ i = .int .i64 0) (fun _ _ => 0)
  case atStart => exact ⟨rfl, rfl⟩
  case round =>
    obtain ⟨rfl, rfl⟩ := hrel
    go_wp2
    go_ret3
    exact ⟨rfl, rfl⟩

set_option maxHeartbeats 400000 in
set_option maxRecDepth 100000 in
theorem read_row (b off c : Nat) (l : List UInt8) (w : World) (hcell : ∀ j, (h : j < l.length) → w.cell? ⟨b, off + j, none⟩ = some (.int .u8 (l[j]).toNat)) :
    Calls Tryz.prog 218 #[.slice (some ⟨b, off, none⟩) l.length c] w fun e w' => e = .returned (rdV (rd l)) ∧ w' = w := by
  go_enter Tryz.func218, Tryz.ntmps218
  go_wp2
  go_loop [5, 10] (fun n i => ∃ (k acc : Nat), k ≤ l.length ∧ k ≤ 9 ∧ n = .int .u64 acc ∧ i = .int .i64 k ∧ acc < 128 ^ k ∧ rd l = rdGo (l.drop k) k acc) (fun _ i => l.length - (intOf i).toNat)
  case atStart => exact ⟨0, 0, Nat.zero_le _, Nat.zero_le _, rfl, rfl, by decide, by simp [rd]⟩
  case round =>
    obtain ⟨k, acc, hk, hk9, rfl, rfl, hacc, hrd⟩ := hrel
    have HR : Hid (rd l = rdGo (l.drop k) k acc) := hrd
    have HA : Hid (acc < 128 ^ k) := hacc
    clear hrd hacc
    by_cases hlt : k < l.length
    · have hc := hcell k hlt
      have HD : Hid (l.drop k = l[k] :: l.drop (k + 1)) := List.drop_eq_getElem_cons hlt
      obtain ⟨x, hx⟩ : ∃ x, x = l[k] := ⟨_, rfl⟩
      rw [← hx] at hc HD
      clear hcell hx
      have hb := x.toNat_lt
      go_wp2
      · obtain rfl : k = 9 := by omega
        go_ret3
        rw [HR.out, HD.out, rdGo_big (by omega)]
        exact ⟨rfl, rfl⟩
      · obtain rfl : k = 9 := by omega
        go_ret3
        rw [HR.out, HD.out, rdGo_zero (by omega) (by omega)]
        exact ⟨rfl, rfl⟩
      · obtain rfl : k = 9 := by omega
        go_ret3
        rw [HR.out, HD.out, rdGo_last (by omega) (by omega) (by omega)]
        exact ⟨by rw [or_nine acc x.toNat HA.out (by omega)]; rfl, rfl⟩
      · go_round
        case rel => exact ⟨k + 1, acc + x.toNat % 128 * 128 ^ k, by omega, by omega, by rw [or_more acc k x.toNat HA.out (by omega)], by go_num, acc_next HA.out, by rw [HR.out, HD.out, rdGo_more (by omega) (by omega)]⟩
        case measure => simp [intOf] <;> omega
      · go_ret3
        rw [HR.out, HD.out, rdGo_zero (by omega) (by omega)]
        exact ⟨rfl, rfl⟩
      · obtain rfl : k = 0 := by omega
        go_ret3
        rw [HR.out, HD.out, rdGo_last (by omega) (by omega) (by omega)]
        obtain rfl : acc = 0 := by have := HA.out; omega
        exact ⟨by simp [rdV, *]; rfl, rfl⟩
      · go_ret3
        rw [HR.out, HD.out, rdGo_last (by omega) (by omega) (by omega)]
        exact ⟨by rw [or_more acc k x.toNat HA.out (by omega), Nat.mod_eq_of_lt (by omega)]; rfl, rfl⟩
    · go_wp2
      go_ret3
      have e : l.drop k = [] := List.drop_eq_nil_of_le (by omega)
      rw [HR.out, e]
      exact ⟨rfl, rfl⟩

set_option maxHeartbeats 400000 in
set_option maxRecDepth 100000 in
theorem rread_nil (a : Option Addr) (c : Nat) (w : World) :
    Calls Tryz.prog 183 #[.slice a 0 c] w fun e w' => e = .returned (rdV none) ∧ w' = w := by
  go_enter Tryz.func183, Tryz.ntmps183
  go_wp2
  go_loop [5] (fun i => i = .int .i64 0) (fun _ => 0)
  case atStart => rfl
  case round =>
    obtain rfl := hrel
    go_wp2
    go_ret3
    exact ⟨rfl, rfl⟩

set_option maxHeartbeats 400000 in
set_option maxRecDepth 100000 in
theorem rread_row (b off c : Nat) (l : List UInt8) (w : World) (hl : l.length ≤ 1000000000000) (hcell : ∀ j, (h : j < l.length) → w.cell? ⟨b, off + j, none⟩ = some (.int .u8 (l[j]).toNat)) :
    Calls Tryz.prog 183 #[.slice (some ⟨b, off, none⟩) l.length c] w fun e w' => e = .returned (rdV (rd l)) ∧ w' = w := by
  go_enter Tryz.func183, Tryz.ntmps183
  go_wp2
  go_loop [5] (fun i => ∃ k : Nat, k ≤ l.length ∧ k ≤ 10 ∧ i = .int .i64 k ∧ ∀ j, (h : j < l.length) → j < k → 128 ≤ (l[j]).toNat) (fun i => l.length - (intOf i).toNat)
  case atStart => exact ⟨0, Nat.zero_le _, Nat.zero_le _, rfl, fun j _ h => by omega⟩
  case round =>
    obtain ⟨k, hk, hk10, rfl, hp0⟩ := hrel
    have HP : Hid (∀ j, (h : j < l.length) → j < k → 128 ≤ (l[j]).toNat) := hp0
    clear hp0
    have HC : Hid (∀ j, (h : j < l.length) → w.cell? ⟨b, off + j, none⟩ = some (.int .u8 (l[j]).toNat)) := hcell
    clear hcell
    by_cases hlt : k < l.length
    · have hc := HC.out k hlt
      obtain ⟨x, hx⟩ : ∃ x, x = l[k] := ⟨_, rfl⟩
      rw [← hx] at hc
      have HX : Hid (x = l[k]) := hx
      clear hx
      have hb := x.toNat_lt
      have hlt' : (k : Int) < l.length := by omega
      by_cases h10 : k < 10
      · have h10' : (k : Int) < 10 := by omega
        by_cases hge : 128 ≤ x.toNat
        · have hge' : (128 : Int) ≤ x.toNat := by omega
          go_wp2
          go_round
          case rel => exact ⟨k + 1, by omega, by omega, by go_num, fun j h hj => by
            by_cases e : j = k
            · subst e; rw [← HX.out]; exact hge
            · exact HP.out j h (by omega)⟩
          case measure => simp [intOf] <;> omega
        · have hge' : (x.toNat : Int) < 128 := by omega
          by_cases h9 : k = 9
          · subst h9
            by_cases h1 : 1 < x.toNat
            · have h1' : (1 : Int) < x.toNat := by omega
              go_wp2
              go_ret3
              rw [rd_big l hlt HP.out (by rw [← HX.out]; exact h1)]
              exact ⟨rfl, rfl⟩
            · have h1' : (x.toNat : Int) ≤ 1 := by omega
              by_cases h0 : x.toNat = 0
              · go_wp2
                go_ret3
                rw [rd_zero l 9 hlt (by omega) (by omega) HP.out (by rw [← HX.out]; exact h0)]
                exact ⟨rfl, rfl⟩
              · have BD : Hid (hvd l 9 0 < 18446744073709551616) := hvd_bound l 9 hlt (by omega) (fun _ => by rw [← HX.out]; omega)
                have RS : Hid (rd l = some (hvd l 9 0, 9 + 1)) := rd_some l 9 hlt (by omega) HP.out (by rw [← HX.out]; omega) (fun _ => by rw [← HX.out]; omega) (by rw [← HX.out]; omega)
                have h0' : ((x.toNat : Int) == 0) = false := by simpa using h0
                go_wp2
                go_loop [6, 7] (fun n i => ∃ j : Nat, j ≤ 9 + 1 ∧ i = .int .i64 ((j : Int) - 1) ∧ n = .int .u64 (hvd l 9 j : Nat)) (fun _ i => (intOf i + 1).toNat)
                case atStart => exact ⟨9 + 1, Nat.le_refl _, by go_num, by rw [hvd_top]; rfl⟩
                case round =>
                  obtain ⟨j, hj, rfl, rfl⟩ := hrel
                  by_cases hj0 : j = 0
                  · subst hj0
                    go_wp2
                    go_ret3
                    rw [RS.out]
                    exact ⟨rfl, rfl⟩
                  · obtain ⟨i, rfl⟩ : ∃ i, j = i + 1 := ⟨j - 1, by omega⟩
                    have hc2 := HC.out i (by omega)
                    have hst := hvd_step l 9 i (by omega) hlt
                    have hle := hvd_le l 9 hlt i (by omega)
                    have hbd := BD.out
                    obtain ⟨y, hy⟩ : ∃ y, y = l[i] := ⟨_, rfl⟩
                    rw [← hy] at hc2 hst
                    have hyb := y.toNat_lt
                    obtain ⟨d, hd⟩ : ∃ d, d = hvd l 9 (i + 1) := ⟨_, rfl⟩
                    rw [← hd] at hst ⊢
                    have HS : Hid (hvd l 9 i = y.toNat % 128 + 128 * d) := hst
                    have hdb : 128 * d + y.toNat % 128 < 18446744073709551616 := by omega
                    clear hst hd hle hbd hy
                    have hij : (i : Int) < l.length := by omega
                    have ei : ((i + 1 : Nat) : Int) - 1 = (i : Int) := by omega
                    rw [ei]
                    clear ei
                    go_wp2
                    go_round
                    case rel => exact ⟨i, by omega, by go_num, by rw [HS.out]; go_num⟩
                    case measure => simp [intOf] <;> omega
          · have h9' : ¬ (k : Int) = 9 := by omega
            by_cases hk0 : 0 < k
            · have hk0' : (0 : Int) < k := by omega
              by_cases h0 : x.toNat = 0
              · go_wp2
                go_ret3
                rw [rd_zero l k hlt (by omega) (by omega) HP.out (by rw [← HX.out]; exact h0)]
                exact ⟨rfl, rfl⟩
              · have BD : Hid (hvd l k 0 < 18446744073709551616) := hvd_bound l k hlt (by omega) (fun h => by omega)
                have RS : Hid (rd l = some (hvd l k 0, k + 1)) := rd_some l k hlt (by omega) HP.out (by rw [← HX.out]; omega) (fun h => by omega) (by rw [← HX.out]; omega)
                have h0' : ((x.toNat : Int) == 0) = false := by simpa using h0
                go_wp2
                go_loop [6, 7] (fun n i => ∃ j : Nat, j ≤ k + 1 ∧ i = .int .i64 ((j : Int) - 1) ∧ n = .int .u64 (hvd l k j : Nat)) (fun _ i => (intOf i + 1).toNat)
                case atStart => exact ⟨k + 1, Nat.le_refl _, by go_num, by rw [hvd_top]; rfl⟩
                case round =>
                  obtain ⟨j, hj, rfl, rfl⟩ := hrel
                  by_cases hj0 : j = 0
                  · subst hj0
                    go_wp2
                    go_ret3
                    rw [RS.out]
                    exact ⟨rfl, rfl⟩
                  · obtain ⟨i, rfl⟩ : ∃ i, j = i + 1 := ⟨j - 1, by omega⟩
                    have hc2 := HC.out i (by omega)
                    have hst := hvd_step l k i (by omega) hlt
                    have hle := hvd_le l k hlt i (by omega)
                    have hbd := BD.out
                    obtain ⟨y, hy⟩ : ∃ y, y = l[i] := ⟨_, rfl⟩
                    rw [← hy] at hc2 hst
                    have hyb := y.toNat_lt
                    obtain ⟨d, hd⟩ : ∃ d, d = hvd l k (i + 1) := ⟨_, rfl⟩
                    rw [← hd] at hst ⊢
                    have HS : Hid (hvd l k i = y.toNat % 128 + 128 * d) := hst
                    have hdb : 128 * d + y.toNat % 128 < 18446744073709551616 := by omega
                    clear hst hd hle hbd hy
                    have hij : (i : Int) < l.length := by omega
                    have ei : ((i + 1 : Nat) : Int) - 1 = (i : Int) := by omega
                    rw [ei]
                    clear ei
                    go_wp2
                    go_round
                    case rel => exact ⟨i, by omega, by go_num, by rw [HS.out]; go_num⟩
                    case measure => simp [intOf] <;> omega
            · obtain rfl : k = 0 := by omega
              rw [Nat.add_zero] at hc
              have hne : ¬ l = [] := by intro e; rw [e] at hlt; simp at hlt
              have BD : Hid (hvd l 0 0 < 18446744073709551616) := hvd_bound l 0 hlt (by omega) (fun h => by omega)
              have RS : Hid (rd l = some (hvd l 0 0, 0 + 1)) := rd_some l 0 hlt (by omega) HP.out (by rw [← HX.out]; omega) (fun h => by omega) (by omega)
              go_wp2
              go_loop [6, 7] (fun n i => ∃ j : Nat, j ≤ 0 + 1 ∧ i = .int .i64 ((j : Int) - 1) ∧ n = .int .u64 (hvd l 0 j : Nat)) (fun _ i => (intOf i + 1).toNat)
              case atStart => exact ⟨0 + 1, Nat.le_refl _, by go_num, by rw [hvd_top]; rfl⟩
              case round =>
                obtain ⟨j, hj, rfl, rfl⟩ := hrel
                by_cases hj0 : j = 0
                · subst hj0
                  go_wp2
                  go_ret3
                  rw [RS.out]
                  exact ⟨rfl, rfl⟩
                · obtain ⟨i, rfl⟩ : ∃ i, j = i + 1 := ⟨j - 1, by omega⟩
                  have hc2 := HC.out i (by omega)
                  have hst := hvd_step l 0 i (by omega) hlt
                  have hle := hvd_le l 0 hlt i (by omega)
                  have hbd := BD.out
                  obtain ⟨y, hy⟩ : ∃ y, y = l[i] := ⟨_, rfl⟩
                  rw [← hy] at hc2 hst
                  have hyb := y.toNat_lt
                  obtain ⟨d, hd⟩ : ∃ d, d = hvd l 0 (i + 1) := ⟨_, rfl⟩
                  rw [← hd] at hst ⊢
                  have HS : Hid (hvd l 0 i = y.toNat % 128 + 128 * d) := hst
                  have hdb : 128 * d + y.toNat % 128 < 18446744073709551616 := by omega
                  clear hst hd hle hbd hy
                  have hij : (i : Int) < l.length := by omega
                  have ei : ((i + 1 : Nat) : Int) - 1 = (i : Int) := by omega
                  rw [ei]
                  clear ei
                  go_wp2
                  go_round
                  case rel => exact ⟨i, by omega, by go_num, by rw [HS.out]; go_num⟩
                  case measure => simp [intOf] <;> omega
      · obtain rfl : k = 10 := by omega
        go_wp2
        go_ret3
        rw [rd_ten l (by omega) HP.out]
        exact ⟨rfl, rfl⟩
    · go_wp2
      go_ret3
      rw [rd_end l (by omega) (fun j h => HP.out j h (by omega))]
      exact ⟨rfl, rfl⟩

end Go.Proofs.YtabaomacfijppaaGreat
namespace Go.Proofs.YtabaomacfijppaaGreat
open Go.RowKit

set_option maxHeartbeats 400000 in
set_option maxRecDepth 100000 in
theorem text_any (s : ByteArray) (w : World) (hs : s.size ≤ 1000000000) :
    Calls Tryz.prog 215 #[.string s] w fun e w' => ∃ v, e = .returned v ∧ w'.ownsRow w.heap.size 5 1 v (tx s.data.toList).length (u8v (tx s.data.toList)) ∧ Below w.heap.size w w' := by
  have hl : s.data.toList.length = s.size := by rw [Array.length_toList]; rfl
  have hl10 := sm_len_le10 (n := s.size) (by omega)
  go_enter Tryz.func215, Tryz.ntmps215
  go_wp2_with fail
  refine (small_any s.size _ (by omega)).mono ?_
  rintro e w1 ⟨v, rfl, hown, hbel⟩
  go_wp2_with (at_builtin; go_must (refine wpList_appstr w w1 rfl (.tmp 6) (.tmp 7) 22 9 rfl w.heap.size 5 Tryz.underlying22 Tryz.underlying9 Tryz.infoB _ _ hown rfl hbel (Nat.le_refl _) s rfl (by omega) ?_); intro v' w2 hown1 hbel1)
  go_ret
  unfold tx
  rw [hl]
  exact ⟨_, rfl, hown1, hbel1⟩

set_option maxHeartbeats 400000 in
set_option maxRecDepth 100000 in
theorem rtext_any (s : ByteArray) (w : World) (hs : s.size ≤ 1000000000) :
    Calls Tryz.prog 118 #[.string s] w fun e w' => ∃ v, e = .returned v ∧ w'.ownsRow w.heap.size 5 1 v (tx s.data.toList).length (u8v (tx s.data.toList)) ∧ Below w.heap.size w w' := by
  have hl : s.data.toList.length = s.size := by rw [Array.length_toList]; rfl
  have hl10 := sm_len_le10 (n := s.size) (by omega)
  go_enter Tryz.func118, Tryz.ntmps118
  go_wp2_with fail
  refine (rsmall_any s.size _ (by omega)).mono ?_
  rintro e w1 ⟨v, rfl, hown, hbel⟩
  go_wp2_with (at_builtin; go_must (refine wpList_appstr w w1 rfl (.tmp 6) (.tmp 7) 22 9 rfl w.heap.size 5 Tryz.underlying22 Tryz.underlying9 Tryz.infoB _ _ hown rfl hbel (Nat.le_refl _) s rfl (by omega) ?_); intro v' w2 hown1 hbel1)
  go_ret
  unfold tx
  rw [hl]
  exact ⟨_, rfl, hown1, hbel1⟩

set_option maxHeartbeats 400000 in
set_option maxRecDepth 100000 in
theorem clone_row1 (b off c : Nat) (l : List UInt8) (w : World) (hl : l.length ≤ 1000000000) (hcell : ∀ j, (h : j < l.length) → w.cell? ⟨b, off + j, none⟩ = some (.int .u8 (l[j]).toNat)) :
    Calls Tryz.prog 144 #[.slice (some ⟨b, off, none⟩) l.length c] w fun e w' => ∃ v, e = .returned v ∧ w'.ownsRow w.heap.size 5 1 v l.length (u8v l) ∧ Below w.heap.size w w' := by
  have HC : Hid (∀ j, (h : j < l.length) → w.cell? ⟨b, off + j, none⟩ = some (.int .u8 (l[j]).toNat)) := hcell
  clear hcell
  have hq := fun wx => Lib.run_eql_slice_nil (P := Tryz.prog) wx 22 5 (some ⟨b, off, none⟩) l.length c 0 0 Tryz.underlying22
  go_enter Tryz.func144, Tryz.ntmps144
  go_wp2_with (at_builtin; go_must (refine wpList_apps w (w.alloc (.cells #[] 5)) rfl (.tmp 5) (.tmp 6) 22 rfl w.heap.size 5 Tryz.underlying22 Tryz.infoB _ [] (World.ownsRow_made w #[] 0 (Nat.le_refl _) (by decide) rfl) rfl ((Below.refl _ _).alloc (Nat.le_refl _) _) (Nat.le_refl _) b off c l.length l rfl rfl (fun j h => (World.cell?_alloc_lt _ _ _ (World.block_lt_of_cell? w _ (HC.out j h))).trans (HC.out j h)) (by simp; omega) ?_); intro v' w1 hown1 hbel1 _)
  go_ret
  exact ⟨_, rfl, hown1, hbel1⟩

theorem clone_at (b off c m : Nat) (l : List UInt8) (w : World) (hm : l.length = m) (hl : m ≤ 1000000000) (hcell : ∀ j, (h : j < l.length) → w.cell? ⟨b, off + j, none⟩ = some (.int .u8 (l[j]).toNat)) :
    Calls Tryz.prog 144 #[.slice (some ⟨b, off, none⟩) m c] w fun e w' => ∃ v, e = .returned v ∧ w'.ownsRow w.heap.size 5 1 v l.length (u8v l) ∧ Below w.heap.size w w' := by
  subst hm
  exact clone_row1 b off c l w hl hcell

def CutV (w w' : World) (v : Value) (l : List UInt8) : Prop :=
  (ct l = none ∧ v = .tuple #[.string ByteArray.empty, .slice none 0 0, .int .i64 8]) ∨
  ∃ t r x, ct l = some (t, r) ∧ v = .tuple #[.string (bs t), x, .int .i64 0] ∧ w'.ownsRow w.heap.size 5 1 x r.length (u8v r)

set_option maxHeartbeats 400000 in
set_option maxRecDepth 100000 in
theorem cut_nil (a : Option Addr) (c : Nat) (w : World) :
    Calls Tryz.prog 219 #[.slice a 0 c] w fun e w' => ∃ v, e = .returned v ∧ CutV w w' v [] ∧ Below w.heap.size w w' := by
  go_enter Tryz.func219, Tryz.ntmps219
  go_wp2_with fail
  refine (read_nil a c _).mono ?_
  rintro e w1 ⟨rfl, rfl⟩
  unfold rdV
  go_wp2
  go_ret3
  exact ⟨_, rfl, .inl ⟨rfl, rfl⟩, Below.refl _ _⟩

set_option maxHeartbeats 400000 in
set_option maxRecDepth 100000 in
theorem cut_row (b off c : Nat) (l : List UInt8) (w : World) (hl : l.length ≤ 1000000000) (hlc : l.length ≤ c) (hcm : c ≤ maxLen) (hcell : ∀ j, (h : j < l.length) → w.cell? ⟨b, off + j, none⟩ = some (.int .u8 (l[j]).toNat)) :
    Calls Tryz.prog 219 #[.slice (some ⟨b, off, none⟩) l.length c] w fun e w' => ∃ v, e = .returned v ∧ CutV w w' v l ∧ Below w.heap.size w w' := by
  have HC : Hid (∀ j, (h : j < l.length) → w.cell? ⟨b, off + j, none⟩ = some (.int .u8 (l[j]).toNat)) := hcell
  clear hcell
  go_enter Tryz.func219, Tryz.ntmps219
  go_wp2_with fail
  refine (read_row b off c l _ HC.out).mono ?_
  rintro e w1 ⟨rfl, rfl⟩
  cases hr : rd l with
  | none =>
    have HR : Hid (rd l = none) := hr
    clear hr
    unfold rdV
    go_wp2
    go_ret3
    exact ⟨_, rfl, .inl ⟨ct_none HR.out, rfl⟩, Below.refl _ _⟩
  | some p =>
    obtain ⟨n, k⟩ := p
    obtain ⟨hk0, hkl, hk10, hn64⟩ := rd_fits hr
    have HR : Hid (rd l = some (n, k)) := hr
    clear hr
    unfold rdV
    by_cases hn : n ≤ l.length - k
    · have HCT : Hid (ct l = some ((l.drop k).take n, l.drop (k + n))) := ct_some HR.out hn
      have hlt : ((l.drop k).take n).length = n := by simp; omega
      have hld : (l.drop (k + n)).length = l.length - k - n := by simp; omega
      by_cases hck : k = c
      · subst hck
        obtain rfl : n = 0 := by omega
        have hR : Rd w1 (.slice (some ⟨b, off, none⟩) 0 0) [] := .inl ⟨rfl, .inr ⟨_, _, rfl⟩⟩
        have hconv : ∀ wx, Rd wx (.slice (some ⟨b, off, none⟩) 0 0) [] → (convert 22 9 (.slice (some ⟨b, off, none⟩) 0 0)).run Tryz.prog wx = .ok (.string (bs [])) wx := fun wx h => conv_rd _ _ _ Tryz.underlying22 Tryz.underlying5 Tryz.underlying9 h
        have hL2 : (l.drop k).length = 0 := by simp; omega
        have HL2 : Hid ((l.drop k).length = 0) := hL2
        have HC2 : Hid (∀ j, (h : j < (l.drop k).length) → w1.cell? ⟨b, off + j, none⟩ = some (.int .u8 ((l.drop k)[j]).toNat)) := fun j h => by
          exfalso; omega
        have HCU : Hid (ct l = some ([], l.drop k)) := by
          have := HCT.out
          rw [List.take_zero, Nat.add_zero] at this
          exact this
        clear hlt hld hL2 HCT
        go_wp2
        go_region_held3 (fun wx => Rd wx (.slice (some ⟨b, off, none⟩) 0 0) []) (first | assumption | exact Rd.carry (by assumption) (by assumption)) ((go_at_call 144; refine (clone_at b off 0 0 (l.drop k) _ HL2.out (by omega) (by exact HC2.out)).mono ?_; rintro e w2 ⟨v2, rfl, hown2, hbel2⟩))
        go_wp2
        go_ret3
        exact ⟨_, rfl, .inr ⟨_, _, _, HCU.out, rfl, hown2⟩, (Below.refl _ _).drew.trans hbel2⟩
      · by_cases hcn : c - k = n
        · have hR : Rd w1 (.slice (some ⟨b, off + k, none⟩) n n) ((l.drop k).take n) := .inr ⟨b, off + k, n, by rw [hlt], by omega, by omega, fun j hj => by
            rw [show off + k + j = off + (k + j) by omega, HC.out (k + j) (by omega)]; simp⟩
          have hconv : ∀ wx, Rd wx (.slice (some ⟨b, off + k, none⟩) n n) ((l.drop k).take n) → (convert 22 9 (.slice (some ⟨b, off + k, none⟩) n n)).run Tryz.prog wx = .ok (.string (bs ((l.drop k).take n))) wx := fun wx h => conv_rd _ _ _ Tryz.underlying22 Tryz.underlying5 Tryz.underlying9 h
          have hL2 : (l.drop (k + n)).length = l.length - k - n := by omega
          have HL2 : Hid ((l.drop (k + n)).length = l.length - k - n) := hL2
          have HC2 : Hid (∀ j, (h : j < (l.drop (k + n)).length) → w1.cell? ⟨b, off + k + j, none⟩ = some (.int .u8 ((l.drop (k + n))[j]).toNat)) := fun j h => by
            first | (rw [show off + k + j = off + (k + n + j) by omega, HC.out (k + n + j) (by omega)]; simp; done) | (exfalso; omega)
          have hb1 : (n : Int) ≤ ((c - k : Nat) : Int) := by omega
          clear hlt hld hL2
          go_wp2
          go_region_held3 (fun wx => Rd wx (.slice (some ⟨b, off + k, none⟩) n n) ((l.drop k).take n)) (first | assumption | exact Rd.carry (by assumption) (by assumption)) ((go_at_call 144; refine (clone_at b (off + k) (0) (l.length - k - n) (l.drop (k + n)) _ HL2.out (by omega) (by exact HC2.out)).mono ?_; rintro e w2 ⟨v2, rfl, hown2, hbel2⟩))
          go_wp2
          go_ret3
          exact ⟨_, rfl, .inr ⟨_, _, _, HCT.out, rfl, hown2⟩, (Below.refl _ _).drew.trans hbel2⟩
        · have hR : Rd w1 (.slice (some ⟨b, off + k, none⟩) n (c - k)) ((l.drop k).take n) := .inr ⟨b, off + k, (c - k), by rw [hlt], by omega, by omega, fun j hj => by
            rw [show off + k + j = off + (k + j) by omega, HC.out (k + j) (by omega)]; simp⟩
          have hconv : ∀ wx, Rd wx (.slice (some ⟨b, off + k, none⟩) n (c - k)) ((l.drop k).take n) → (convert 22 9 (.slice (some ⟨b, off + k, none⟩) n (c - k))).run Tryz.prog wx = .ok (.string (bs ((l.drop k).take n))) wx := fun wx h => conv_rd _ _ _ Tryz.underlying22 Tryz.underlying5 Tryz.underlying9 h
          have hL2 : (l.drop (k + n)).length = l.length - k - n := by omega
          have HL2 : Hid ((l.drop (k + n)).length = l.length - k - n) := hL2
          have HC2 : Hid (∀ j, (h : j < (l.drop (k + n)).length) → w1.cell? ⟨b, off + k + n + j, none⟩ = some (.int .u8 ((l.drop (k + n))[j]).toNat)) := fun j h => by
            first | (rw [show off + k + n + j = off + (k + n + j) by omega, HC.out (k + n + j) (by omega)]; simp; done) | (exfalso; omega)
          have hb1 : (n : Int) ≤ ((c - k : Nat) : Int) := by omega
          clear hlt hld hL2
          go_wp2
          go_region_held3 (fun wx => Rd wx (.slice (some ⟨b, off + k, none⟩) n (c - k)) ((l.drop k).take n)) (first | assumption | exact Rd.carry (by assumption) (by assumption)) ((go_at_call 144; refine (clone_at b (off + k + n) (c - k - n) (l.length - k - n) (l.drop (k + n)) _ HL2.out (by omega) (by exact HC2.out)).mono ?_; rintro e w2 ⟨v2, rfl, hown2, hbel2⟩))
          go_wp2
          go_ret3
          exact ⟨_, rfl, .inr ⟨_, _, _, HCT.out, rfl, hown2⟩, (Below.refl _ _).drew.trans hbel2⟩
    · go_wp2
      all_goals (go_ret3; exact ⟨_, rfl, .inl ⟨ct_long HR.out hn, rfl⟩, Below.refl _ _⟩)

theorem read1_any {v : Value} {l : List UInt8} (w : World) (h : Rd w v l) :
    Calls Tryz.prog 218 #[v] w fun e w' => e = .returned (rdV (rd l)) ∧ w' = w := by
  rcases h with ⟨rfl, rfl | ⟨ad, c, rfl⟩⟩ | ⟨b, off, c, rfl, hc, hm, hcell⟩
  · exact read_nil _ _ w
  · exact read_nil _ _ w
  · exact read_row b off c l w hcell
theorem rread1_any {v : Value} {l : List UInt8} (w : World) (hl : l.length ≤ 1000000000) (h : Rd w v l) :
    Calls Tryz.prog 183 #[v] w fun e w' => e = .returned (rdV (rd l)) ∧ w' = w := by
  rcases h with ⟨rfl, rfl | ⟨ad, c, rfl⟩⟩ | ⟨b, off, c, rfl, hc, hm, hcell⟩
  · exact rread_nil _ _ w
  · exact rread_nil _ _ w
  · exact rread_row b off c l w (by omega) hcell
theorem ccut_any {v : Value} {l : List UInt8} (w : World) (hl : l.length ≤ 1000000000) (h : Rd w v l) :
    Calls Tryz.prog 219 #[v] w fun e w' => ∃ v, e = .returned v ∧ CutV w w' v l ∧ Below w.heap.size w w' := by
  rcases h with ⟨rfl, rfl | ⟨ad, c, rfl⟩⟩ | ⟨b, off, c, rfl, hc, hm, hcell⟩
  · exact cut_nil _ _ w
  · exact cut_nil _ _ w
  · exact cut_row b off c l w hl hc hm hcell
def cutT (l : List UInt8) : ByteArray := match ct l with | none => ByteArray.empty | some (t, _) => bs t
def cutEr (l : List UInt8) : Int := match ct l with | none => 8 | some _ => 0
def cutR (l : List UInt8) : List UInt8 := match ct l with | none => [] | some (_, r) => r
theorem cutV_form {w w' : World} {v : Value} {l : List UInt8} (h : CutV w w' v l) : ∃ x, v = .tuple #[.string (cutT l), x, .int .i64 (cutEr l)] ∧ w'.ownsRow w.heap.size 5 1 x (cutR l).length (u8v (cutR l)) := by
  rcases h with ⟨h, rfl⟩ | ⟨t, r, x, h, rfl, hx⟩
  · exact ⟨.slice none 0 0, by simp [cutT, cutEr, h], by simp only [cutR, h]; exact World.ownsRow_nil _ _ _ _⟩
  · exact ⟨x, by simp [cutT, cutEr, h], by simp only [cutR, h]; exact hx⟩
end Go.Proofs.YtabaomacfijppaaGreat
