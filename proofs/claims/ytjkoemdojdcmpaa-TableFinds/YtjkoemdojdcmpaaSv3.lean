/-
  What sieve.eachBit does, handed the function that asks a bit, or the one that sets it.
-/
import Derived.Test.YtjkoemdojdcmpaaSv1
namespace Go.Proofs.Ytjkoemdojdcmpaa
open Go.RowKit
set_option linter.unusedVariables false
set_option linter.unusedSimpArgs false

theorem getD_at (b : List UInt8) (k : Nat) (h : k < b.length) : b[k] = b.getD k 0 := by
  rw [List.getD_eq_getElem?_getD, List.getElem?_eq_getElem h]; rfl
theorem u8v_set (l : List UInt8) (k : Nat) (x : UInt8) : (u8v l).set k (.int .u8 x.toNat) = u8v (l.set k x) := by simp [u8v, List.map_set]
theorem OwY.setY {w : World} {base g n c : Nat} {l : List UInt8} (h : OwY w base (.slice (some ⟨g, 0, none⟩) n c) l) (k : Nat) (x : UInt8) (hB : base ≤ w.heap.size) :
    OwY (w.setCell ⟨g, k, none⟩ (.int .u8 x.toNat)) base (.slice (some ⟨g, 0, none⟩) n c) (l.set k x) ∧ Below base w (w.setCell ⟨g, k, none⟩ (.int .u8 x.toNat)) ∧ KeepG 5 w (w.setCell ⟨g, k, none⟩ (.int .u8 x.toNat)) := by
  obtain ⟨a', c', e⟩ := h.form
  cases e
  obtain ⟨s1, s2⟩ := World.ownsRow.stored h k (.int .u8 x.toNat)
  refine ⟨?_, ?_, keepY_of h s2⟩
  · unfold OwY
    rw [List.length_set, ← u8v_set]
    exact s1
  · exact (Below.refl _ _).grown s2 hB fun j hj => (World.ownsRow.lt h j hj).1
theorem or_bit (x : UInt8) (q m : Nat) (hm : m = 2 ^ (q % 8)) : bits BinOp.or IntKind.u8 (x.toNat : Int) (m : Int) = ((UInt8.ofNat (x.toNat ||| 2 ^ (q % 8))).toNat : Int) := by
  subst hm
  have h := pow8 q
  rw [u8_or_nat _ _ x.toNat_lt (by omega), stB_byte]

def SetP (w : World) (base : Nat) (v : Value) (b : List UInt8) (w' : World) : Prop := OwY w' base v b ∧ Below base w w' ∧ KeepG 5 w w'

set_option maxHeartbeats 1000000 in
set_option maxRecDepth 100000 in
theorem make1_sv (g n c base : Nat) (b : List UInt8) (p q m : Nat) (w : World) (hb : OwY w base (.slice (some ⟨g, 0, none⟩) n c) b) (hB : base ≤ w.heap.size) (hn : n = b.length) (hp : w.cell? ⟨p, 0, none⟩ = some (.slice (some ⟨g, 0, none⟩) n c)) (hq : q / 8 < n) (hm : m = 2 ^ (q % 8)) :
    Calls Try.prog 73 #[.int .i64 (q / 8 : Nat), .int .u8 m, .pointer (some ⟨p, 0, none⟩)] w fun e w' => e = .returned (.bool true) ∧ SetP w base (.slice (some ⟨g, 0, none⟩) n c) (stB b q) w' := by
  obtain ⟨g', off, ha, hx⟩ := rd_cellX hb.rd (q / 8) (by omega)
  cases ha
  rw [Nat.zero_add] at hx
  have e1 := or_bit b[q / 8] q m hm
  have HE := hide (show b.set (q / 8) (UInt8.ofNat ((b[q / 8]).toNat ||| 2 ^ (q % 8))) = stB b q by unfold stB; rw [getD_at b (q / 8) (by omega)])
  have hfz : w.frozen? ⟨g, q / 8, none⟩ = false := by
    rcases hb.2 with ⟨h, _⟩ | ⟨g', cap, cur, h, _, hg, _⟩
    · cases h
    · cases h
      exact frozen_of_row w g (q / 8) _ _ hg
  generalize b[q / 8] = x at *
  generalize UInt8.ofNat (x.toNat ||| 2 ^ (q % 8)) = y at *
  generalize stB b q = b' at *
  have HS := hide (hb.setY (q / 8) y hB)
  rw [HE.out] at HS
  clear HE hm hb hn
  generalize q / 8 = k at *
  have hk : (k : Int) < n := by omega
  go_enter Try.func73, Try.ntmps73
  go_wp2
  go_ret
  exact ⟨rfl, HS.out⟩

theorem bit_num (s : List UInt8) (N k lo od : Nat) (hk : k < 4) (hN : 0 < N) (hlo : lo = hsh s % 4294967296) (hod : od = odN (hsh s / 4294967296)) :
    IntKind.u64.wrap ((k : Int) * (od : Int)) = ((k * od : Nat) : Int) ∧ IntKind.u64.wrap ((lo : Int) + ((k * od : Nat) : Int)) = ((lo + k * od : Nat) : Int) ∧ (((lo + k * od : Nat) : Int) % (N : Int)) = (btN s N k : Nat) := by
  have h1 := hsh_lt s
  have h2 : od < 4294967296 := by rw [hod]; exact odN_lt (by omega)
  have h3 : lo < 4294967296 := by omega
  have h4 : k * od ≤ 3 * 4294967296 := Nat.mul_le_mul (by omega) (by omega)
  refine ⟨?_, ?_, ?_⟩
  · rw [IntKind.wrap_u64, show (k : Int) * (od : Int) = ((k * od : Nat) : Int) by push_cast; rfl]
    omega
  · rw [IntKind.wrap_u64]
    omega
  · unfold btN
    rw [← hlo, ← hod]
    omega
theorem bit_shl (q : Nat) : ∃ m : Nat, m = 2 ^ (q % 8) ∧ (2 : Int) ^ (q % 8) % 256 = (m : Int) := by
  refine ⟨_, rfl, ?_⟩
  have h := pow8 q
  have e : ((2 : Int) ^ (q % 8)) = ((2 ^ (q % 8) : Nat) : Int) := by rw [Int.natCast_pow]; rfl
  rw [e]
  generalize 2 ^ (q % 8) = m at h
  omega

set_option maxHeartbeats 1000000 in
set_option maxRecDepth 100000 in
theorem eachMake_sv (g n c base : Nat) (b s : List UInt8) (p : Nat) (w : World) (hb : OwY w base (.slice (some ⟨g, 0, none⟩) n c) b) (hB : base ≤ w.heap.size) (hn : n = b.length) (hp : Bx w p 22 #[.slice (some ⟨g, 0, none⟩) n c]) (h0 : 0 < n) (h1 : n ≤ 1000000) (hs : s.length ≤ 1000000) :
    Calls Try.prog 42 #[.string (bs s), .int .i64 n, .func (.func 73) #[] #[.pointer (some ⟨p, 0, none⟩)]] w fun e w' => e = .returned (.bool true) ∧ SetP w base (.slice (some ⟨g, 0, none⟩) n c) (ptK s (n * 8) 4 b) w' := by
  have HN := hide hn
  have HS := hide hs
  have HP := hide hp
  have HBS := hide hB
  have HL := hide (hsh_lt s)
  have eN : IntKind.u64.wrap ((n : Int) * 8) = ((n * 8 : Nat) : Int) := by rw [IntKind.wrap_u64]; omega
  obtain ⟨N, hNe⟩ : ∃ N, N = n * 8 := ⟨_, rfl⟩
  rw [← hNe] at eN ⊢
  have hN0 : 0 < N := by omega
  have HNE := hide hNe
  have HB := hide (show SetP w base (.slice (some ⟨g, 0, none⟩) n c) b w from ⟨hb, Below.refl _ _, fun _ _ _ _ _ h => h⟩)
  clear hn hb hs hp hNe hB
  go_enter Try.func42, Try.ntmps42
  go_wp2_with fail
  refine (hash_sv s w HS.out).mono ?_
  rintro e w1 ⟨rfl, rfl⟩
  have HQ := hide (show ∀ k, btN s N k / 8 < n from fun k => by have := btN_lt s hN0 k; have := HNE.out; omega)
  obtain ⟨H, hH⟩ : ∃ H, H = hsh s := ⟨_, rfl⟩
  rw [← hH] at HL ⊢
  have HH := hide hH
  clear hH
  go_wp2_with fail
  go_loopw [16] (fun i wr => ∃ k : Nat, k ≤ 4 ∧ i = .int .u64 k ∧ Hid (SetP w1 base (.slice (some ⟨g, 0, none⟩) n c) (ptK s N k b) wr)) (fun i _ => 4 - (intOf i).toNat)
  case atStart => exact ⟨0, Nat.zero_le _, rfl, HB⟩
  case round =>
    obtain ⟨k, hk, rfl, hz⟩ := hrel
    by_cases hlt : k < 4
    · have hlt' : (k : Int) < 4 := by omega
      go_wp2_with fail
      refine (low_sv H _ HL.out).mono ?_
      rintro e w2 ⟨rfl, rfl⟩
      obtain ⟨lo, hlo⟩ : ∃ lo, lo = H % 4294967296 := ⟨_, rfl⟩
      rw [← hlo]
      have HLO := hide hlo
      clear hlo
      go_wp2_with fail
      refine (high_sv H _ HL.out).mono ?_
      rintro e w3 ⟨rfl, rfl⟩
      obtain ⟨hi, hhi⟩ : ∃ hi, hi = H / 4294967296 := ⟨_, rfl⟩
      rw [← hhi]
      have HHI := hide hhi
      clear hhi
      go_wp2_with fail
      refine (odd_sv hi _ (by have := HL.out; have := HHI.out; omega)).mono ?_
      rintro e w4 ⟨rfl, rfl⟩
      obtain ⟨od, hod⟩ : ∃ od, od = odN hi := ⟨_, rfl⟩
      rw [← hod]
      have HOD := hide hod
      clear hod
      obtain ⟨e1, e2, e3⟩ := bit_num s N k lo od hlt hN0 (by rw [HLO.out, HH.out]) (by rw [HOD.out, HHI.out, HH.out])
      have hq := HQ.out k
      have HT := hide (show ptK s N (k + 1) b = stB (ptK s N k b) (btN s N k) from rfl)
      clear HLO HOD HHI
      generalize btN s N k = q at *
      generalize lo + k * od = y at *
      generalize k * od = z at *
      go_wp2_with fail
      have hqd : (q : Int) / 8 = ((q / 8 : Nat) : Int) := by omega
      obtain ⟨m, hm1, hm2⟩ := bit_shl q
      rw [hqd, hm2]
      refine (make1_sv g n c base (ptK s N k b) p q m _ hz.out.1 (Nat.le_trans HBS.out hz.out.2.1.size) (by rw [ptK_len]; exact HN.out) ((HP.out.keep hz.out.2.2 (by decide)).at 0 rfl) hq hm1).mono ?_
      rintro e w5 ⟨rfl, hS⟩
      have HZ := hide (show SetP w1 base (.slice (some ⟨g, 0, none⟩) n c) (ptK s N (k + 1) b) w5 by
        rw [HT.out]
        exact ⟨hS.1, hz.out.2.1.trans hS.2.1, hz.out.2.2.trans hS.2.2⟩)
      clear hqd hm1 hm2 e3 hS
      go_wp2
      go_roundw
      case rel => exact ⟨k + 1, by omega, by go_num, HZ⟩
      case measure => simp only [intOf]; omega
    · have hd : decide ((k : Int) < 4) = false := by simpa using (by omega : ¬ (k : Int) < 4)
      have HF := hide (show SetP w1 base (.slice (some ⟨g, 0, none⟩) n c) (ptK s N 4 b) _ by have := hz.out; rwa [show k = 4 by omega] at this)
      go_wp2
      go_ret
      exact ⟨rfl, HF.out⟩
end Go.Proofs.Ytjkoemdojdcmpaa
