/-
  Four bytes of a number, the number of four bytes: table's and the document's.
-/
import Derived.Test.YtjkoemdojdcmpaaTb1
import Derived.Test.YtjkoemdojdcmpaaSv4
import Derived.BigQuiet
namespace Go.Proofs.Ytjkoemdojdcmpaa
open Go.RowKit
set_option linter.unusedVariables false
set_option linter.unusedSimpArgs false

theorem i64_or_nat (a b : Nat) (ha : a < 4611686018427387904) (hb : b < 4611686018427387904) : bits .or .i64 (a : Int) (b : Int) = ((a ||| b : Nat) : Int) := by
  have hx : a ||| b < 2 ^ 62 := Nat.or_lt_two_pow (by omega) (by omega)
  show IntKind.i64.wrap ((BitVec.ofInt 64 (a : Int) ||| BitVec.ofInt 64 (b : Int)).toNat : Int) = _
  rw [BitVec.toNat_or, ofInt_u64 a (by omega), ofInt_u64 b (by omega), IntKind.wrap_i64]
  omega
theorem four_arith {j : Nat} (h : j < 4) : ∃ m : Nat, m = 8 * j ∧ wrap64 (8 * (j : Int)) = (m : Int) ∧ IntKind.i64.wrap (8 * (j : Int)) = (m : Int) ∧ (m : Int) ≤ 32 := by
  refine ⟨8 * j, rfl, ?_, ?_, by omega⟩
  · unfold wrap64; omega
  · rw [IntKind.wrap_i64]; omega
theorem four_byte (x j m : Nat) (hm : m = 8 * j) (h : j < 4) : IntKind.u8.wrap ((x : Int) / 2 ^ m) = (((le4 x)[j]'(by rw [le4_len]; exact h)).toNat : Int) := by
  rw [le4_get x j h, hm, IntKind.wrap_u8', UInt8.toNat_ofNat']
  have e : ((2 : Int) ^ (8 * j)) = ((2 ^ (8 * j) : Nat) : Int) := by rw [Int.natCast_pow]; rfl
  rw [e, ← Int.natCast_ediv]
  generalize x / 2 ^ (8 * j) = y
  omega
theorem four_fill (x j : Nat) (h : j < 4) : ((le4 x).take j ++ List.replicate (4 - j) 0).set j ((le4 x)[j]'(by rw [le4_len]; exact h)) = (le4 x).take (j + 1) ++ List.replicate (4 - (j + 1)) 0 := by
  match j, h with
  | 0, _ => rfl
  | 1, _ => rfl
  | 2, _ => rfl
  | 3, _ => rfl

set_option maxHeartbeats 1000000 in
set_option maxRecDepth 100000 in
theorem four_tb (x : Nat) (w : World) (hx : x < 4294967296) :
    Calls Try.prog 52 #[.int .i64 x] w fun e w' => ∃ v, e = .returned v ∧ OwY w' w.heap.size v (le4 x) ∧ Below w.heap.size w w' := by
  obtain ⟨w1, hmk, o1, b1⟩ := make_sv0 w 4 (by decide)
  have HO1 := hide o1
  have HB1 := hide b1
  obtain ⟨g, hg⟩ : ∃ g, g = w.heap.size := ⟨_, rfl⟩
  rw [← hg] at hmk HO1
  have HG := hide hg
  clear o1 b1 hg
  go_enter Try.func52, Try.ntmps52
  go_wp2_with (first | (refine wpList_mkY rfl (.const (.int .i64 4)) (.const (.int .i64 4)) 22 rfl rfl rfl hmk ?_) | fail)
  clear hmk
  go_loopw [8] (fun i wr => ∃ k : Nat, k ≤ 4 ∧ i = .int .i64 k ∧ Hid (OwY wr g (.slice (some ⟨g, 0, none⟩) 4 4) ((le4 x).take k ++ List.replicate (4 - k) 0)) ∧ Hid (Below w.heap.size w wr)) (fun i _ => 4 - (intOf i).toNat)
  case atStart => exact ⟨0, Nat.zero_le _, rfl, HO1, HB1⟩
  case round =>
    obtain ⟨j, hj, rfl, hO, hB⟩ := hrel
    clear HO1 HB1
    by_cases hlt : j < 4
    · have hlt' : (j : Int) < 4 := by omega
      obtain ⟨m, em, a1, a2, a3⟩ := four_arith hlt
      obtain ⟨bk, hbk, ebk⟩ : ∃ bk : UInt8, IntKind.u8.wrap ((x : Int) / 2 ^ m) = (bk.toNat : Int) ∧ bk = (le4 x)[j]'(by rw [le4_len]; exact hlt) := ⟨_, four_byte x j m em hlt, rfl⟩
      have HSS := hide (four_fill x j hlt)
      rw [← ebk] at HSS
      have HLL := hide (show ((le4 x).take j ++ List.replicate (4 - j) (0 : UInt8)).length = 4 by rw [List.length_append, List.length_take, le4_len, List.length_replicate]; omega)
      generalize (le4 x).take j ++ List.replicate (4 - j) 0 = D at *
      obtain ⟨g', off', ha, qb⟩ := rd_cellX hO.out.rd j (by rw [HLL.out]; exact hlt)
      cases ha
      rw [Nat.zero_add] at qb
      have hfz : wr.frozen? ⟨g, j, none⟩ = false := World.ownsRow.frozenAt (show wr.ownsRow _ _ _ _ _ _ by have := hO.out; unfold OwY at this; rw [HLL.out] at this; exact this) _
      obtain ⟨s1, s2, s3⟩ := hO.out.setY j bk (by have := (World.ownsRow.lt hO.out g rfl).2; omega)
      rw [HSS.out] at s1
      have HO6 := hide s1
      have HB6 := hide (hB.out.trans (s2.mono (Nat.le_of_eq HG.out.symm)))
      generalize (D[j]'(by rw [HLL.out]; exact hlt)) = y at *
      clear s1 s2 s3 em ebk
      go_wp2
      go_roundw
      case rel => exact ⟨j + 1, by omega, by go_num, HO6, HB6⟩
      case measure => simp only [intOf]; omega
    · have hd : decide ((j : Int) < 4) = false := by simpa using (by omega : ¬ (j : Int) < 4)
      obtain rfl : j = 4 := by omega
      go_wp2
      go_ret
      refine ⟨_, rfl, ?_, hB.out⟩
      rw [← HG.out]
      exact hO.out

theorem get_or14 (j m u : Nat) (b : UInt8) (hm : m = 8 * j) (hj : j < 4) (hu : u < 256 ^ j) : bits .or .i64 (u : Int) ((b.toNat : Int) * 2 ^ m) = ((u + b.toNat * 256 ^ j : Nat) : Int) := by
  have hb := b.toNat_lt
  have hp : (256 : Nat) ^ j = 2 ^ m := by rw [hm, Nat.pow_mul]
  rw [hp] at hu ⊢
  have hle : (2 : Nat) ^ m ≤ 2 ^ 24 := Nat.pow_le_pow_right (by decide) (by omega)
  have hlt : b.toNat * 2 ^ m < 4294967296 := by
    have : b.toNat * 2 ^ m ≤ 255 * 2 ^ m := Nat.mul_le_mul_right _ (by omega)
    omega
  have e : ((b.toNat : Int) * 2 ^ m) = ((b.toNat * 2 ^ m : Nat) : Int) := by rw [Int.natCast_mul, Int.natCast_pow]; rfl
  rw [e, i64_or_nat _ _ (by omega) (by omega), Nat.or_comm, nat_join m _ _ (by simp) hu, Nat.add_comm]
theorem get_shl14 (j m : Nat) (b : UInt8) (hm : m = 8 * j) (hj : j < 4) : wrap64 (b.toNat : Int) = b.toNat ∧ wrap64 ((b.toNat : Int) * 2 ^ m) = (b.toNat : Int) * 2 ^ m := by
  have hb := b.toNat_lt
  have hle : (2 : Nat) ^ m ≤ 2 ^ 24 := Nat.pow_le_pow_right (by decide) (by omega)
  have hlt : b.toNat * 2 ^ m < 4294967296 := by
    have : b.toNat * 2 ^ m ≤ 255 * 2 ^ m := Nat.mul_le_mul_right _ (by omega)
    omega
  have e : ((b.toNat : Int) * 2 ^ m) = ((b.toNat * 2 ^ m : Nat) : Int) := by rw [Int.natCast_mul, Int.natCast_pow]; rfl
  rw [e]
  unfold wrap64
  omega

set_option maxHeartbeats 1000000 in
set_option maxRecDepth 100000 in
theorem num_tb (a : Option Addr) (n c : Nat) (b : List UInt8) (w : World) (hrd : Rd w (.slice a n c) b) (hn : 4 ≤ b.length) :
    Calls Try.prog 53 #[.slice a n c] w fun e w' => e = .returned (.int .i64 (un4 (b.take 4) : Nat)) ∧ w' = w := by
  obtain ⟨a2, c2, hsl, hr2⟩ := slYh hrd .i64 4 hn
  have hR := hr2 w hrd
  have HB := hide (show (b.take 4).length = 4 by rw [List.length_take]; omega)
  generalize b.take 4 = d at *
  have HR := hide hR
  clear hr2 hrd hn hR
  go_enter Try.func53, Try.ntmps53
  go_wp2_with (first | (refine wpList_slH rfl (.tmp 6) (.const (.int .i64 4)) 22 (by kernel_rfl) rfl rfl rfl hsl ?_) | fail)
  clear hsl
  go_loop [3, 9] (fun t i => ∃ j : Nat, j ≤ 4 ∧ i = .int .i64 j ∧ t = .int .i64 (un4 (d.take j) : Nat)) (fun _ i => 4 - (intOf i).toNat)
  case atStart => exact ⟨0, Nat.zero_le _, rfl, rfl⟩
  case round =>
    obtain ⟨j, hj, rfl, rfl⟩ := hrel
    by_cases hlt : j < 4
    · have hlt' : (j : Int) < 4 := by omega
      obtain ⟨m, em, a1, a2', a3⟩ := four_arith hlt
      have hjb : j < d.length := by rw [HB.out]; exact hlt
      obtain ⟨g, off, ha, hc⟩ := rd_cellX HR.out j hjb
      subst ha
      obtain ⟨u, hu⟩ : ∃ u : Nat, u = un4 (d.take j) := ⟨_, rfl⟩
      have HU := hide (show un4 (d.take (j + 1)) = u + (d[j]).toNat * 256 ^ j by rw [hu]; exact un4_take d j hjb)
      have HL := hide (show u < 256 ^ j by
        rw [hu]; have := un4_lt (d.take j); rwa [List.length_take, Nat.min_eq_left (by omega)] at this)
      rw [← hu]
      obtain ⟨y, hy⟩ : ∃ y : UInt8, y = d[j] := ⟨_, rfl⟩
      rw [← hy] at hc HU
      have e1 := get_or14 j m u y em hlt HL.out
      obtain ⟨e2, e3⟩ := get_shl14 j m y em hlt
      rw [← HU.out] at e1
      obtain ⟨u2, hu2⟩ : ∃ u2 : Nat, u2 = un4 (d.take (j + 1)) := ⟨_, rfl⟩
      rw [← hu2] at e1
      have HU2 := hide hu2
      clear hu hy em HU HL hu2
      go_wp2
      go_round
      case rel => exact ⟨j + 1, by omega, by go_num, by rw [← HU2.out]⟩
      case measure => simp [intOf] <;> omega
    · obtain rfl : j = 4 := by omega
      go_wp2
      go_ret
      refine ⟨?_, rfl⟩
      rw [List.take_of_length_le (by rw [HB.out]; omega)]
      rfl

theorem rfour_cells (n : Nat) (h : n < 4294967296) (z : Array Value) (hz : z = #[Value.int .u8 ((n : Int) % 256), .int .u8 ((n : Int) / 256 % 256), .int .u8 ((n : Int) / 65536 % 256), .int .u8 ((n : Int) / 16777216 % 256)]) : z.toList = u8v (le4 n) := by
  subst hz
  simp only [u8v, le4, List.map_cons, List.map_nil, UInt8.toNat_ofNat']
  have e1 : ((n % 256 % 2 ^ 8 : Nat) : Int) = (n : Int) % 256 := by omega
  have e2 : ((n / 256 % 256 % 2 ^ 8 : Nat) : Int) = (n : Int) / 256 % 256 := by omega
  have e3 : ((n / 65536 % 256 % 2 ^ 8 : Nat) : Int) = (n : Int) / 65536 % 256 := by omega
  have e4 : ((n / 16777216 % 256 % 2 ^ 8 : Nat) : Int) = (n : Int) / 16777216 % 256 := by omega
  rw [e1, e2, e3, e4]
theorem OwY_lit (w : World) (l : List UInt8) (h : l.length ≤ maxLen) (cs : Array Value) (hc : cs.toList = u8v l) : OwY (w.alloc (.cells cs 5)) w.heap.size (.slice (some ⟨w.heap.size, 0, none⟩) l.length l.length) l := by
  show World.ownsRow _ _ _ _ _ _ _
  have hl : cs.size = l.length := by rw [← Array.length_toList, hc]; simp [u8v]
  refine ⟨by simp [u8v], .inr ⟨w.heap.size, l.length, cs, rfl, Nat.le_refl _, heap_alloc_new _ _, Nat.le_refl _, h, by simp [hl], ?_⟩⟩
  rw [hc, List.take_of_length_le (by simp [u8v])]

set_option maxHeartbeats 1000000 in
set_option maxRecDepth 100000 in
theorem rfour_tb (n : Nat) (w : World) (hn : n < 4294967296) :
    Calls Try.prog 32 #[.int .i64 n] w fun e w' => ∃ v, e = .returned v ∧ OwY w' w.heap.size v (le4 n) ∧ Below w.heap.size w w' := by
  have q1 : Int.tmod (n : Int) 256 = (n : Int) % 256 := Int.tmod_eq_emod_of_nonneg (by omega)
  have q2 : Int.tdiv (n : Int) 256 = (n : Int) / 256 := Int.tdiv_eq_ediv_of_nonneg (by omega)
  have q3 : Int.tdiv (n : Int) 65536 = (n : Int) / 65536 := Int.tdiv_eq_ediv_of_nonneg (by omega)
  have q4 : Int.tdiv (n : Int) 16777216 = (n : Int) / 16777216 := Int.tdiv_eq_ediv_of_nonneg (by omega)
  have q5 : Int.tmod ((n : Int) / 256) 256 = (n : Int) / 256 % 256 := Int.tmod_eq_emod_of_nonneg (by omega)
  have q6 : Int.tmod ((n : Int) / 65536) 256 = (n : Int) / 65536 % 256 := Int.tmod_eq_emod_of_nonneg (by omega)
  have q7 : Int.tmod ((n : Int) / 16777216) 256 = (n : Int) / 16777216 % 256 := Int.tmod_eq_emod_of_nonneg (by omega)
  go_enter Try.func32, Try.ntmps32
  go_wp2
  go_ret
  exact ⟨_, rfl, OwY_lit w (le4 n) (by unfold maxLen; rw [le4_len]; decide) _ (rfour_cells n hn _ rfl), (Below.refl _ _).alloc (Nat.le_refl _) _⟩

theorem four_of {b : List UInt8} (h : b.length = 4) : ∃ b0 b1 b2 b3 : UInt8, b = [b0, b1, b2, b3] := by
  match b, h with
  | [b0, b1, b2, b3], _ => exact ⟨b0, b1, b2, b3, rfl⟩
theorem four_num (b0 b1 b2 b3 : UInt8) : (b0.toNat : Int) + (b1.toNat : Int) * 256 + (b2.toNat : Int) * 65536 + (b3.toNat : Int) * 16777216 = (un4 [b0, b1, b2, b3] : Nat) := by
  simp only [un4]
  omega

set_option maxHeartbeats 1000000 in
set_option maxRecDepth 100000 in
theorem rnum_tb (a : Option Addr) (c : Nat) (b : List UInt8) (w : World) (hb : b.length = 4) (hrd : Rd w (.slice a 4 c) b) :
    Calls Try.prog 33 #[.slice a 4 c] w fun e w' => e = .returned (.int .i64 (un4 b : Nat)) ∧ Below w.heap.size w w' := by
  have h0 := rd_cellX hrd 0 (by omega)
  obtain ⟨g, off, ha, c0⟩ := h0
  subst ha
  obtain ⟨g1, off1, e1, c1⟩ := rd_cellX hrd 1 (by omega)
  cases e1
  obtain ⟨g1, off1, e1, c2⟩ := rd_cellX hrd 2 (by omega)
  cases e1
  obtain ⟨g1, off1, e1, c3⟩ := rd_cellX hrd 3 (by omega)
  cases e1
  obtain ⟨b0, b1, b2, b3, rfl⟩ := four_of hb
  simp only [List.getElem_cons_zero, List.getElem_cons_succ, Nat.add_zero] at c0 c1 c2 c3
  clear hrd hb
  have HN := hide (four_num b0 b1 b2 b3)
  have l0 := b0.toNat_lt
  have l1 := b1.toNat_lt
  have l2 := b2.toNat_lt
  have l3 := b3.toNat_lt
  generalize b0.toNat = m0 at *
  generalize b1.toNat = m1 at *
  generalize b2.toNat = m2 at *
  generalize b3.toNat = m3 at *
  go_enter Try.func33, Try.ntmps33
  go_wp2
  go_quiet (fail)
  go_wp2
  go_ret
  exact ⟨ret_i64B (by rw [← HN.out]), below_drewN (Below.refl _ _) _⟩

end Go.Proofs.Ytjkoemdojdcmpaa
