/-
  What frame's put, read, needed, count and part do.
-/
import Derived.Test.YtkhkdagdgbmdkaaFsFn6
import Derived.Test.YtkhkdagdgbmdkaaMathFr2
namespace Go.Proofs.Ytkhkdagdgbmdkaa
open Go.RowKit
set_option linter.unusedVariables false
set_option linter.unusedSimpArgs false

theorem rd_cell {w : World} {a : Option Addr} {n c : Nat} {l : List UInt8} (h : Rd w (.slice a n c) l) (j : Nat) (hj : j < l.length) : ∃ g off, a = some ⟨g, off, none⟩ ∧ w.cell? ⟨g, off + j, none⟩ = some (.int .u8 (l[j]).toNat) := by
  rcases h with ⟨rfl, _⟩ | ⟨b, off, c', e, h1, h2, h3⟩
  · simp at hj
  · simp only [Value.slice.injEq] at e
    obtain ⟨rfl, rfl, rfl⟩ := e
    exact ⟨b, off, rfl, h3 j hj⟩
theorem splice_step2 (data l : List UInt8) (o k m : Nat) (hk : k < l.length) (hkm : k < m) (hm : m ≤ l.length) (hf : o + m ≤ data.length) : (splice data o (l.take k)).set (o + k) l[k] = splice data o (l.take (k + 1)) := by
  have := splice_step data (l.take m) o k (by rw [List.length_take]; omega) (by rw [List.length_take]; omega)
  simp only [List.take_take, List.getElem_take, Nat.min_eq_left (show k ≤ m by omega), Nat.min_eq_left (show k + 1 ≤ m by omega)] at this
  exact this
theorem shr_form (x j : Nat) (m : Nat) (hm : m = 8 * j) (h : j < 4) : ∃ bk : UInt8, IntKind.u8.wrap ((x : Int) / 2 ^ m) = (bk.toNat : Int) ∧ bk = (le4 x)[j]'(by rw [le4_len]; exact h) := ⟨_, put_byte x j m hm h, rfl⟩

set_option maxHeartbeats 1000000 in
set_option maxRecDepth 100000 in
theorem fput_any (base g n c k m cp : Nat) (l : List UInt8) (x : Nat) (w : World) (hown : OwB w base (.slice (some ⟨g, 0, none⟩) n c) l) (hm : m ≤ 4) (hk : k + m ≤ l.length) (hx : x < 4294967296) :
    Calls Try.prog 28 #[.slice (some ⟨g, k, none⟩) m cp, .int .u32 x] w fun e w' => e = .returned (.tuple #[]) ∧ w.grownBy w' (some g) ∧ OwB w' base (.slice (some ⟨g, 0, none⟩) n c) (splice l k ((le4 x).take m)) := by
  have HOWN := hide hown
  have HKL := hide hk
  have HX := hide hx
  clear hown hk hx
  go_enter Try.func28, Try.ntmps28
  go_wp2
  go_loopw [7] (fun i wr => ∃ j : Nat, j ≤ m ∧ i = .int .i64 j ∧ Hid (OwB wr base (.slice (some ⟨g, 0, none⟩) n c) (splice l k ((le4 x).take j))) ∧ w.grownBy wr (some g)) (fun i _ => m - (intOf i).toNat)
  case atStart =>
    refine ⟨0, Nat.zero_le _, rfl, ?_, World.grownBy.refl _ _⟩
    show OwB _ _ _ _
    have e : splice l k ((le4 x).take 0) = l := by simp [splice]
    rw [e]; exact HOWN.out
  case round =>
    obtain ⟨j, hj, rfl, ho, hgr⟩ := hrel
    by_cases hlt : j < m
    · have hlt' : (j : Int) < m := by omega
      have hl4 : j < 4 := by omega
      obtain ⟨q, em, a1, a2, a3⟩ := put_arith hl4
      obtain ⟨bk, hbk, ebk⟩ := shr_form x j q em hl4
      clear em
      have hfz := ho.out.fz (k + j)
      have hcl := ho.out.at (k + j) (by rw [length_splice]; have := HKL.out; omega; have := HKL.out; simp [le4_len]; omega)
      obtain ⟨o1, o2⟩ := ho.out.stored (k + j) bk
      rw [ebk, splice_step2 _ _ _ _ m (by rw [le4_len]; exact hl4) hlt (by rw [le4_len]; exact hm) HKL.out, ← ebk] at o1
      have HO1 := hide o1
      have HG := hide (grown_trans hgr o2)
      clear o1 o2 ho hgr ebk
      go_wp2
      go_roundw
      case rel => exact ⟨j + 1, by omega, rfl, HO1, HG.out⟩
      case measure => simp only [intOf]; omega
    · have hd : decide ((j : Int) < m) = false := by simpa using (by omega : ¬ (j : Int) < m)
      obtain rfl : j = m := by omega
      have HO := hide ho.out
      clear ho
      go_wp2
      refine bodyPost_end (v := .tuple #[]) ?_ rfl ⟨rfl, hgr, HO.out⟩
      simp [results, Try.results28, go_sem]

set_option maxHeartbeats 1000000 in
set_option maxRecDepth 100000 in
theorem fread_any (a : Option Addr) (n c : Nat) (b : List UInt8) (w : World) (hrd : Rd w (.slice a n c) b) (hn : n = b.length) (hb : b.length ≤ 4) :
    Calls Try.prog 29 #[.slice a n c] w fun e w' => e = .returned (.int .u32 (un4 b)) ∧ w' = w := by
  have hn4 : n ≤ 4 := by omega
  have HN := hide hn
  have HR := hide hrd
  clear hrd hn
  go_enter Try.func29, Try.ntmps29
  go_wp2
  go_loop [2, 7] (fun t i => ∃ j : Nat, j ≤ n ∧ i = .int .i64 j ∧ t = .int .u32 (un4 (b.take j))) (fun _ i => n - (intOf i).toNat)
  case atStart => exact ⟨0, Nat.zero_le _, rfl, rfl⟩
  case round =>
    obtain ⟨j, hj, rfl, rfl⟩ := hrel
    by_cases hlt : j < n
    · have hlt' : (j : Int) < n := by omega
      have hl4 : j < 4 := by omega
      obtain ⟨m, em, a1, a2, a3⟩ := put_arith hl4
      have EM := hide em
      clear em
      have hjb : j < b.length := by rw [← HN.out]; exact hlt
      obtain ⟨g, off, rfl, hc⟩ := rd_cell HR.out j hjb
      obtain ⟨u, hu⟩ : ∃ u : Nat, u = un4 (b.take j) := ⟨_, rfl⟩
      have HU := hide (show un4 (b.take (j + 1)) = u + (b[j]).toNat * 256 ^ j by rw [hu]; exact un4_take b j hjb)
      have HL := hide (show u < 256 ^ j by
        rw [hu]; have := un4_lt (b.take j); rwa [List.length_take, Nat.min_eq_left (by omega)] at this)
      rw [← hu]
      obtain ⟨y, hy⟩ : ∃ y : UInt8, y = b[j] := ⟨_, rfl⟩
      rw [← hy] at hc
      have HY := hide hy
      clear hu hy
      go_wp2
      go_round
      case rel => exact ⟨j + 1, by omega, rfl, by rw [HU.out, ← get_or j m u _ EM.out hl4 HL.out, ← HY.out]⟩
      case measure => simp only [intOf]; omega
    · have hd : decide ((j : Int) < n) = false := by simpa using (by omega : ¬ (j : Int) < n)
      have HE := hide (show b.take j = b by rw [List.take_of_length_le (by rw [← HN.out]; omega)])
      obtain rfl : j = n := by omega
      go_wp2
      go_ret
      refine ⟨?_, rfl⟩
      rw [HE.out]
      rfl

set_option maxHeartbeats 1000000 in
theorem needed_any (n : Nat) (w : World) (hn : n ≤ 1000000) :
    Calls Try.prog 21 #[.int .i64 n] w fun e w' => e = .returned (.int .i64 (needN n)) ∧ w' = w := by
  have h1 : wrap64 ((n : Int) + 107) = ((n + 107 : Nat) : Int) := by unfold wrap64; omega
  have h2 : wrap64 (((n + 107 : Nat) : Int) - 1) = ((n + 106 : Nat) : Int) := by unfold wrap64; omega
  have h3 : ((n + 106 : Nat) : Int).tdiv 107 = (((n + 106) / 107 : Nat) : Int) := by rw [Int.tdiv_eq_ediv_of_nonneg (by omega)]; omega
  have HE := hide (show ((needN n : Nat) : Int) = max 1 (((n + 106) / 107 : Nat) : Int) by unfold needN; omega)
  go_enter Try.func21, Try.ntmps21
  clear h1 h2 h3
  go_wp2
  · go_ret
    refine ⟨?_, rfl⟩
    rw [HE.out]
    show Ending.returned (.int .i64 _) = _
    congr 2
    omega
  · go_ret
    refine ⟨?_, rfl⟩
    rw [HE.out]
    show Ending.returned (.int .i64 _) = _
    congr 2
    omega

end Go.Proofs.Ytkhkdagdgbmdkaa
