/-
  Plain mathematics: the number that a list of small bytes tells, reckoned from its end, is the one reckoned from its beginning.
-/
import Derived.Test.YtlibnefibeikcaaRmMay
import Derived.Test.YtlibnefibeikcaaKit
namespace Go.Proofs.Ytlibnefibeikcaa
open Go.RowKit
set_option linter.unusedVariables false
set_option linter.unusedSimpArgs false

/-- A new extent is apart from those that were marked. -/
theorem apX_next {l : List Ex} {k : Nat} (hk : k < l.length) (hm : ∀ x ∈ l, mayX x = true) (h : apX (l.take k) = true) (hn : ∀ n : Nat, inL (l.take k) n = true → inX l[k] n = false) : apX (l.take (k + 1)) = true := by
  rw [take_snoc l k hk, apX_snoc, h, Bool.true_and, List.all_eq_true]
  intro y hy
  have hyl : y ∈ l := List.mem_of_mem_take hy
  have my := (mayX_iff y).1 (hm y hyl)
  have mk := (mayX_iff _).1 (hm _ (List.getElem_mem hk))
  rw [Bool.not_eq_true', ← Bool.not_eq_true, meetX_in mk.2.1 my.2.1]
  rintro ⟨n, h1, h2⟩
  have h0 : 0 ≤ n := by simp [inX] at h2; omega
  have := hn n.toNat (by rw [Int.toNat_of_nonneg h0, inL_iff]; exact ⟨y, hy, by simpa [inX] using h2⟩)
  rw [Int.toNat_of_nonneg h0, h1] at this
  cases this
theorem apX_hit {l : List Ex} {k : Nat} (hk : k < l.length) (hm : ∀ x ∈ l, mayX x = true) {n : Nat} (h1 : inL (l.take k) n = true) (h2 : inX l[k] n = true) : apX (l.take (k + 1)) = false := by
  rw [take_snoc l k hk, apX_snoc, Bool.and_eq_false_iff]
  right
  rw [List.all_eq_false]
  obtain ⟨y, hy, h3⟩ := (inL_iff _ _).1 h1
  have my := (mayX_iff y).1 (hm y (List.mem_of_mem_take hy))
  have mk := (mayX_iff _).1 (hm _ (List.getElem_mem hk))
  refine ⟨y, hy, ?_⟩
  rw [(meetX_in mk.2.1 my.2.1).2 ⟨n, h2, by simpa [inX] using h3⟩]; simp

set_option maxHeartbeats 1000000 in
theorem check_ext (a : Option Addr) (n c : Nat) (l : List Ex) (w : World) (hrd : RdE w (.slice a n c) l) (hn : n = l.length) (hwf : ∀ x ∈ l, wfX x) :
    Calls Try.prog 81 #[.slice a n c] w fun e w' => e = .returned (.int .i64 (chkX l)) ∧ Below w.heap.size w w' := by
  have HR := hide hrd
  have HN := hide hn
  have HA := hide (allMayBe_any a n c l w hrd hn hwf)
  clear hrd hn hwf
  go_enter Try.func81, Try.ntmps81
  go_wp2_with fail
  refine HA.out.mono ?_
  rintro e wa ⟨rfl, hba⟩
  by_cases hz : allX l = 0
  · have HZ := hide hz
    rw [hz]
    have hzero := Try.zeroMk
    have hne := mkC_ne (fun _ => false)
    have hn4 : n ≤ 4096 := by have := (allX_ok HZ.out).1; have := HN.out; omega
    have HMay := hide (fun x hx => (mayX_iff x).2 ((allX_ok HZ.out).2 x hx) : ∀ x ∈ l, mayX x = true)
    have hws := hba.size
    clear hz
    go_wp2
    go_loopw [14] (fun i wr => ∃ k : Nat, k ≤ n ∧ i = .int .i64 k ∧ Hid (Mk wr wa.heap.size (fun j => inL (l.take k) j)) ∧ Hid (apX (l.take k) = true) ∧ Below w.heap.size w wr) (fun i _ => n - (intOf i).toNat)
    case atStart => exact ⟨0, Nat.zero_le _, rfl, hide ((Mk.new wa _).same fun j => by simp [inL]), hide (by simp [apX]), hba.alloc hws _⟩
    case round =>
      obtain ⟨k, hk, rfl, hmk, hap, hbel⟩ := hrel
      have hml := hmk.out.lt
      by_cases hlt : k < n
      · have hlt' : (k : Int) < n := by omega
        have hkl : k < l.length := by have := HN.out; omega
        obtain ⟨b, off, rfl, q0, q1⟩ := (HR.out.carry hbel).at k hkl
        go_wp2_with fail
        refine (markNew_any wa.heap.size _ (l[k]) (HMay.out _ (List.getElem_mem hkl)) _ (hmk.out.carry ((Below.refl _ _).alloc (Nat.le_refl _) _))).mono ?_
        rintro e wc ⟨hg, ⟨rfl, hm1, hno⟩ | ⟨rfl, j, -, hj1, hj2⟩⟩
        · have HM1 := hide (hm1.same (g := fun j => inL (l.take (k + 1)) j) fun j => by rw [take_snoc l k hkl, inL_snoc])
          have HAP := hide (apX_next hkl HMay.out hap.out hno)
          have hbc : Below w.heap.size w wc := (hbel.alloc hbel.size _).grown hg (Nat.le_trans hbel.size (by simp)) (fun j hj => by cases hj; exact hws)
          clear hm1 hg hno
          go_wp2
          go_roundw
          case rel => exact ⟨k + 1, by omega, rfl, HM1, HAP, hbc⟩
          case measure => simp only [intOf]; omega
        · have HC := hide (chkX_apart (k := k + 1) hkl HZ.out (apX_hit hkl HMay.out hj1 hj2))
          have hbc : Below w.heap.size w wc := (hbel.alloc hbel.size _).grown hg (Nat.le_trans hbel.size (by simp)) (fun j hj => by cases hj; exact hws)
          clear hg hj1 hj2
          go_wp2
          go_ret
          exact ⟨by rw [HC.out]; rfl, hbc⟩
      · have hd : decide ((k : Int) < n) = false := by simpa using (by omega : ¬ (k : Int) < n)
        have HC := hide (chkX_good HZ.out (by have := hap.out; rwa [List.take_of_length_le (by have := HN.out; omega)] at this))
        go_wp2
        go_ret
        exact ⟨by rw [HC.out]; rfl, hbel⟩
  · have HC := hide (chkX_all hz)
    generalize hE : allX l = E at *
    have hz' : (E == 0) = false := by simpa using hz
    go_wp2
    go_ret
    exact ⟨by rw [HC.out]; rfl, hba⟩

end Go.Proofs.Ytlibnefibeikcaa
namespace Go.Proofs.Ytlibnefibeikcaa

def hv : List UInt8 → Nat
  | [] => 0
  | c :: r => c.toNat % 128 + 128 * hv r

theorem hv_snoc : ∀ (p : List UInt8) (c : UInt8), hv (p ++ [c]) = hv p + c.toNat % 128 * 128 ^ p.length
  | [], c => by simp [hv]
  | x :: p, c => by
    simp only [List.cons_append, hv, hv_snoc p c, List.length_cons, Nat.pow_succ, Nat.mul_add]
    rw [show c.toNat % 128 * (128 ^ p.length * 128) = 128 * (c.toNat % 128 * 128 ^ p.length) by rw [← Nat.mul_assoc, Nat.mul_comm]]
    omega
theorem hv_lt : ∀ p : List UInt8, hv p < 128 ^ p.length
  | [] => by simp [hv]
  | x :: p => by
    have := hv_lt p
    simp only [hv, List.length_cons, Nat.pow_succ]; omega

theorem rdGo_pre : ∀ (p r : List UInt8) (i acc : Nat), (∀ x ∈ p, 128 ≤ x.toNat) → i + p.length ≤ 9 → rdGo (p ++ r) i acc = rdGo r (i + p.length) (acc + hv p * 128 ^ i)
  | [], r, i, acc, _, _ => by simp [hv]
  | x :: p, r, i, acc, h, hl => by
    simp only [List.length_cons] at hl
    rw [List.cons_append, rdGo_more (by omega) (h x (by simp)), rdGo_pre p r (i + 1) _ (fun y hy => h y (by simp [hy])) (by omega)]
    congr 1
    · simp only [List.length_cons]; omega
    · simp only [hv, Nat.pow_succ, Nat.add_mul]
      rw [show 128 * hv p * 128 ^ i = hv p * (128 ^ i * 128) by rw [Nat.mul_comm 128 (hv p), Nat.mul_assoc, Nat.mul_comm 128]]
      omega

theorem rd_split (l : List UInt8) (k : Nat) (h9 : k ≤ 9) (hk : k ≤ l.length) (hp : ∀ j, (h : j < l.length) → j < k → 128 ≤ (l[j]).toNat) : rd l = rdGo (l.drop k) k (hv (l.take k)) := by
  have e : l = l.take k ++ l.drop k := (List.take_append_drop k l).symm
  have hlen : (l.take k).length = k := by simp; omega
  unfold rd
  rw [e, rdGo_pre _ _ _ _ (by
    intro x hx
    obtain ⟨j, hj, rfl⟩ := List.mem_iff_getElem.1 hx
    rw [hlen] at hj
    simp only [List.getElem_take]
    exact hp j (by omega) hj) (by omega)]
  rw [hlen]
  simp

theorem rd_end (l : List UInt8) (h10 : l.length ≤ 10) (hp : ∀ j, (h : j < l.length) → 128 ≤ (l[j]).toNat) : rd l = none := by
  by_cases h9 : l.length ≤ 9
  · rw [rd_split l l.length h9 (Nat.le_refl _) (fun j h _ => hp j h)]; simp [rdGo]
  · rw [rd_split l 9 (by omega) (by omega) (fun j h _ => hp j h), List.drop_eq_getElem_cons (by omega), rdGo_big (by have := hp 9 (by omega); omega)]
theorem rd_ten (l : List UInt8) (h10 : 10 ≤ l.length) (hp : ∀ j, (h : j < l.length) → j < 10 → 128 ≤ (l[j]).toNat) : rd l = none := by
  rw [rd_split l 9 (by omega) (by omega) (fun j h _ => hp j h (by omega)), List.drop_eq_getElem_cons (by omega), rdGo_big (by have := hp 9 (by omega) (by omega); omega)]
theorem rd_big (l : List UInt8) (h10 : 9 < l.length) (hp : ∀ j, (h : j < l.length) → j < 9 → 128 ≤ (l[j]).toNat) (hb : 1 < (l[9]).toNat) : rd l = none := by
  rw [rd_split l 9 (by omega) (by omega) (fun j h _ => hp j h (by omega)), List.drop_eq_getElem_cons (by omega), rdGo_big hb]
theorem rd_zero (l : List UInt8) (k : Nat) (hk : k < l.length) (h9 : k ≤ 9) (h0 : 0 < k) (hp : ∀ j, (h : j < l.length) → j < k → 128 ≤ (l[j]).toNat) (hb : (l[k]).toNat = 0) : rd l = none := by
  rw [rd_split l k h9 (by omega) hp, List.drop_eq_getElem_cons hk, rdGo_zero hb h0]

def hvd (l : List UInt8) (k j : Nat) : Nat := hv ((l.take (k + 1)).drop j)
theorem hvd_top (l : List UInt8) (k : Nat) : hvd l k (k + 1) = 0 := by
  unfold hvd; rw [List.drop_eq_nil_of_le (by simp; omega)]; rfl
theorem hvd_step (l : List UInt8) (k j : Nat) (hj : j ≤ k) (hk : k < l.length) : hvd l k j = (l[j]).toNat % 128 + 128 * hvd l k (j + 1) := by
  unfold hvd; rw [List.drop_eq_getElem_cons (by simp; omega)]; simp [hv]
theorem hvd_le (l : List UInt8) (k : Nat) (hk : k < l.length) : ∀ j, j ≤ k + 1 → hvd l k j ≤ hvd l k 0
  | 0, _ => Nat.le_refl _
  | j + 1, h => by
    have := hvd_le l k hk j (by omega)
    have := hvd_step l k j (by omega) hk
    omega
theorem hvd_zero (l : List UInt8) (k : Nat) (hk : k < l.length) : hvd l k 0 = hv (l.take k) + (l[k]).toNat % 128 * 128 ^ k := by
  unfold hvd
  rw [List.drop_zero, List.take_succ_eq_append_getElem hk, hv_snoc]
  simp [Nat.min_eq_left (show k ≤ l.length by omega)]
theorem hvd_bound (l : List UInt8) (k : Nat) (hk : k < l.length) (h9 : k ≤ 9) (hb : k = 9 → (l[k]).toNat ≤ 1) : hvd l k 0 < 18446744073709551616 := by
  rw [hvd_zero l k hk]
  have h1 := hv_lt (l.take k)
  have e : (l.take k).length = k := by simp; omega
  rw [e] at h1
  by_cases h : k = 9
  · have := hb h
    subst h
    have h2 : (l[9]).toNat % 128 * 128 ^ 9 ≤ 1 * 128 ^ 9 := Nat.mul_le_mul_right _ (by omega)
    omega
  · have h3 : 128 ^ k ≤ 128 ^ 8 := Nat.pow_le_pow_right (by decide) (by omega)
    have h2 : (l[k]).toNat % 128 * 128 ^ k ≤ 127 * 128 ^ 8 := Nat.mul_le_mul (by omega) h3
    omega
theorem rd_some (l : List UInt8) (k : Nat) (hk : k < l.length) (h9 : k ≤ 9) (hp : ∀ j, (h : j < l.length) → j < k → 128 ≤ (l[j]).toNat) (hlt : (l[k]).toNat < 128)
    (hb : k = 9 → (l[k]).toNat ≤ 1) (hz : ¬ (0 < k ∧ (l[k]).toNat = 0)) : rd l = some (hvd l k 0, k + 1) := by
  rw [rd_split l k h9 (by omega) hp, List.drop_eq_getElem_cons hk, rdGo_last (by intro h; have := hb h.1; omega) hlt (by omega), hvd_zero l k hk, Nat.mod_eq_of_lt hlt]

/-- What is read was within the list. -/
theorem rdGo_fits : ∀ (l : List UInt8) (i acc n k : Nat), i ≤ 9 → acc < 128 ^ i → rdGo l i acc = some (n, k) → i < k ∧ k ≤ i + l.length ∧ k ≤ 10 ∧ n < 18446744073709551616
  | [], i, acc, n, k, _, _, h => by simp [rdGo] at h
  | c :: r, i, acc, n, k, hi, ha, h => by
    rw [rdGo] at h
    split at h
    · simp at h
    · rename_i h9
      split at h
      · rename_i hge
        have hi9 : i ≠ 9 := by intro e; exact h9 ⟨e, by omega⟩
        have := rdGo_fits r (i + 1) _ n k (by omega) (acc_next ha) h
        simp only [List.length_cons]; omega
      · rename_i hlt
        split at h
        · simp at h
        · simp only [Option.some.injEq, Prod.mk.injEq] at h
          obtain ⟨rfl, rfl⟩ := h
          refine ⟨by omega, by simp only [List.length_cons]; omega, by omega, ?_⟩
          by_cases e : i = 9
          · subst e
            have h2 : c.toNat * 128 ^ 9 ≤ 1 * 128 ^ 9 := Nat.mul_le_mul_right _ (by omega)
            omega
          · have h3 : 128 ^ i ≤ 128 ^ 8 := Nat.pow_le_pow_right (by decide) (by omega)
            have h2 : c.toNat * 128 ^ i ≤ 127 * 128 ^ 8 := Nat.mul_le_mul (by omega) h3
            omega
theorem rd_fits {l : List UInt8} {n k : Nat} (h : rd l = some (n, k)) : 0 < k ∧ k ≤ l.length ∧ k ≤ 10 ∧ n < 18446744073709551616 := by
  have := rdGo_fits l 0 0 n k (by omega) (by decide) h
  omega

/-- What is written is read. -/
theorem rdGo_sm : ∀ (m : Nat) (r : List UInt8) (i acc : Nat), i ≤ 9 → m * 128 ^ i < 18446744073709551616 → (0 < i → 0 < m) → rdGo (sm m ++ r) i acc = some (acc + m * 128 ^ i, i + (sm m).length) := by
  intro m
  induction m using Nat.strongRecOn with
  | ind m ih =>
    intro r i acc hi hm h0
    by_cases hlt : m < 128
    · have e : (UInt8.ofNat m).toNat = m := by rw [UInt8.toNat_ofNat']; omega
      rw [sm_lt hlt]
      simp only [List.cons_append, List.nil_append, List.length_cons, List.length_nil]
      rw [rdGo_last (by
        rw [e]; rintro ⟨rfl, h1⟩
        have : 2 * 128 ^ 9 ≤ m * 128 ^ 9 := Nat.mul_le_mul_right _ (by omega)
        omega) (by omega) (by rw [e]; intro h; have := h0 h.2; omega), e]
    · have e : (UInt8.ofNat (m % 128 + 128)).toNat = m % 128 + 128 := by rw [UInt8.toNat_ofNat']; omega
      have hi9 : i ≠ 9 := by
        rintro rfl
        have : 128 * 128 ^ 9 ≤ m * 128 ^ 9 := Nat.mul_le_mul_right _ (by omega)
        omega
      have hp : m / 128 * 128 ^ (i + 1) + m % 128 * 128 ^ i = m * 128 ^ i := by
        rw [Nat.pow_succ, Nat.mul_comm (128 ^ i) 128, ← Nat.mul_assoc, ← Nat.add_mul]
        congr 1; omega
      rw [sm_ge (by omega), List.cons_append, rdGo_more hi9 (by omega), e, ih (m / 128) (by omega) r (i + 1) _ (by omega) (by omega) (by omega)]
      rw [show (m % 128 + 128) % 128 = m % 128 by omega]
      simp only [List.length_cons, Option.some.injEq, Prod.mk.injEq]
      omega
theorem rd_sm (n : Nat) (hn : n < 18446744073709551616) (r : List UInt8) : rd (sm n ++ r) = some (n, (sm n).length) := by
  unfold rd; rw [rdGo_sm n r 0 0 (by omega) (by omega) (by omega)]; simp

/-- A text is cut off. -/
def ct (l : List UInt8) : Option (List UInt8 × List UInt8) :=
  match rd l with
  | none => none
  | some (n, k) => if n ≤ l.length - k then some ((l.drop k).take n, l.drop (k + n)) else none
theorem ct_none {l : List UInt8} (h : rd l = none) : ct l = none := by simp [ct, h]
theorem ct_long {l : List UInt8} {n k : Nat} (h : rd l = some (n, k)) (hn : ¬ n ≤ l.length - k) : ct l = none := by simp [ct, h, hn]
theorem ct_some {l : List UInt8} {n k : Nat} (h : rd l = some (n, k)) (hn : n ≤ l.length - k) : ct l = some ((l.drop k).take n, l.drop (k + n)) := by simp [ct, h, hn]
/-- A text's bytes. -/
def tx (s : List UInt8) : List UInt8 := sm s.length ++ s
theorem ct_tx (s r : List UInt8) (hs : s.length < 18446744073709551616) : ct (tx s ++ r) = some (s, r) := by
  have h := rd_sm s.length hs (s ++ r)
  unfold tx
  rw [List.append_assoc]
  rw [ct_some h (by simp)]
  simp [List.drop_append]

end Go.Proofs.Ytlibnefibeikcaa
