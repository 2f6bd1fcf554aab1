/-
  What the document's Bits of layer 13 does.
-/
import Derived.Test.YtjkoemdojdcmpaaSv4
namespace Go.Proofs.Ytjkoemdojdcmpaa
open Go.RowKit
set_option linter.unusedVariables false
set_option linter.unusedSimpArgs false

def ecZ (z : Nat) : List Value := [.int .i64 z]
theorem ecZ_len (z : Nat) : (ecZ z).length = 1 := rfl
theorem Try.infoZ : (Try.prog.info? 3).map (fun i => (i.zero, i.size, i.bytes)) = some (some (.int .i64 0), 1, 8) := by kernel_rfl
def RdZ (w : World) (v : Value) (l : List Nat) : Prop := RdG 1 ecZ w v l
def OwZ (w : World) (base : Nat) (v : Value) (l : List Nat) : Prop := OwG 1 ecZ 3 w base v l
theorem OwZ.rd {w : World} {base : Nat} {v : Value} {l : List Nat} (h : OwZ w base v l) : RdZ w v l := OwG.rd ecZ_len h
theorem RdZ.at {w w' : World} {a : Option Addr} {n c : Nat} {l : List Nat} (h : RdZ w (.slice a n c) l) (hb : Below w.heap.size w w') (j : Nat) (hj : j < l.length) : ∃ b off, a = some ⟨b, off, none⟩ ∧ w'.cell? ⟨b, off + j, none⟩ = some (.int .i64 (l[j] : Nat)) := by
  obtain ⟨b, off, e, q⟩ := RdG.atB h hb j hj
  have := q 0 _ rfl
  simp only [Nat.mul_one, Nat.add_zero] at this
  exact ⟨b, off, e, this⟩
theorem app_z {w : World} {base : Nat} {v : Value} {l : List Nat} (h : OwZ w base v l) (hb : base ≤ w.heap.size) (hl : l.length ≤ 1000000) (z : Nat) :
    ∃ g c w', (Builtin.append_ #[90, 90] 90 #[v, .slice (some ⟨w.heap.size, 0, none⟩) 1 1]).run Try.prog (w.alloc (.cells #[.int .i64 z] 3)) = .ok (.slice (some ⟨g, 0, none⟩) (l.length + 1) c) w' ∧
      OwZ w' base (.slice (some ⟨g, 0, none⟩) (l.length + 1) c) (l ++ [z]) ∧ Below base w w' := by
  obtain ⟨g, c, w', h1, h2, h3, _⟩ := app_oneG (P := Try.prog) ecZ_len (by decide) (by intro x u hu; simp [ecZ] at hu; subst hu; rfl) Try.underlying90 Try.infoZ rfl h hb (by omega) (by unfold maxLen; omega) z #[.int .i64 z] rfl
  exact ⟨g, c, w', h1, h2, h3⟩
def bitL (s : List UInt8) (N k : Nat) : List Nat := (List.range k).map (btN s N)
@[simp] theorem bitL_len (s : List UInt8) (N k : Nat) : (bitL s N k).length = k := by simp [bitL]
theorem bitL_succ (s : List UInt8) (N k : Nat) : bitL s N (k + 1) = bitL s N k ++ [btN s N k] := by simp [bitL, List.range_succ]
theorem bitL_at (s : List UInt8) (N k j : Nat) (h : j < (bitL s N k).length) : (bitL s N k)[j] = btN s N j := by simp [bitL]

set_option maxHeartbeats 2000000 in
set_option maxRecDepth 100000 in
theorem rbits_sv (s : List UInt8) (N : Nat) (w : World) (hN0 : 0 < N) (hN : N ≤ 1000000) (hs : s.length ≤ 1000000) :
    Calls Try.prog 60 #[.string (bs s), .int .i64 N] w fun e w' => ∃ a c, e = .returned (.slice a 4 c) ∧ OwZ w' w.heap.size (.slice a 4 c) (bitL s N 4) ∧ Below w.heap.size w w' := by
  have HS := hide hs
  have HL := hide (hsh_lt s)
  have eN : IntKind.u64.wrap (N : Int) = (N : Int) := by rw [IntKind.wrap_u64]; omega
  clear hs
  go_enter Try.func60, Try.ntmps60
  go_wp2_with fail
  refine (rhash_sv s w HS.out).mono ?_
  rintro e w1 ⟨rfl, rfl⟩
  obtain ⟨H, hH⟩ : ∃ H, H = hsh s := ⟨_, rfl⟩
  rw [← hH] at HL ⊢
  obtain ⟨lo, hlo⟩ : ∃ lo, lo = H % 4294967296 := ⟨_, rfl⟩
  obtain ⟨hi, hhi⟩ : ∃ hi, hi = H / 4294967296 := ⟨_, rfl⟩
  have elo : (H : Int) % 4294967296 = (lo : Int) := by omega
  have ehi : (H : Int) / 4294967296 = (hi : Int) := by omega
  have HH := hide hH
  have HLO := hide hlo
  have HHI := hide hhi
  have hhl : hi < 4294967296 := by have := HL.out; omega
  clear hH hlo hhi
  by_cases hpar : hi % 2 = 0
  · have hp1 : ((hi : Int) % 2 == 0) = true := by simpa using (by omega : (hi : Int) % 2 = 0)
    obtain ⟨od, hod⟩ : ∃ od, od = hi + 1 := ⟨_, rfl⟩
    have HOD := hide (show od = odN hi by rw [hod]; unfold odN; rw [if_pos hpar])
    have ea : IntKind.u64.wrap ((hi : Int) + 1) = (od : Int) := by rw [IntKind.wrap_u64]; omega
    clear hod hpar
    go_wp2_with fail
    (try rw [elo])
    clear elo
    go_loopw [8, 9] (fun v i wr => ∃ (k : Nat) (av : Option Addr) (cv : Nat), k ≤ 4 ∧ i = .int .u64 k ∧ v = .slice av k cv ∧ Hid (OwZ wr w1.heap.size (.slice av k cv) (bitL s N k)) ∧ Hid (Below w1.heap.size w1 wr)) (fun _ i _ => 4 - (intOf i).toNat)
    case atStart => exact ⟨0, _, _, Nat.zero_le _, rfl, rfl, hide (OwG.nil _ _), hide (Below.refl _ _)⟩
    case round =>
      obtain ⟨k, av, cv, hk, rfl, rfl, hO, hB⟩ := hrel
      by_cases hlt : k < 4
      · have hlt' : (k : Int) < 4 := by omega
        obtain ⟨e1, e2, e3⟩ := bit_num s N k lo od hlt hN0 (by rw [HLO.out, HH.out]) (by rw [HOD.out, HHI.out, HH.out])
        have hq : btN s N k < N := btN_lt s hN0 k
        obtain ⟨g, cg, w4, hrun, ho4, hb4⟩ := app_z hO.out hB.out.size (by rw [bitL_len]; omega) (btN s N k)
        rw [← bitL_succ, bitL_len] at ho4
        rw [bitL_len] at hrun
        have HO4 := hide ho4
        have HB4 := hide (show Below w1.heap.size w1 w4 from hB.out.trans hb4)
        clear ho4 hb4
        generalize btN s N k = q at *
        generalize lo + k * od = y at *
        generalize k * od = z at *
        go_wp2_with (at_builtin; refine wpList_runappY rfl (.tmp 25) (.tmp 35) 90 rfl rfl rfl rfl hrun ?_)
        clear e3 hrun
        go_roundw
        case rel => exact ⟨k + 1, _, _, by omega, by go_num, rfl, HO4, HB4⟩
        case measure => simp only [intOf]; omega
      · have hd : decide ((k : Int) < 4) = false := by simpa using (by omega : ¬ (k : Int) < 4)
        obtain rfl : k = 4 := by omega
        go_wp2
        go_ret
        exact ⟨_, _, rfl, hO.out, hB.out⟩
  · have hp1 : ((hi : Int) % 2 == 0) = false := by simpa using (by omega : ¬ (hi : Int) % 2 = 0)
    obtain ⟨od, hod⟩ : ∃ od, od = hi := ⟨_, rfl⟩
    have HOD := hide (show od = odN hi by rw [hod]; unfold odN; rw [if_neg hpar])
    clear hpar
    rw [← hod] at hp1 ehi HHI hhl HOD
    subst hod
    go_wp2_with fail
    (try rw [elo])
    clear elo
    go_loopw [8, 9] (fun v i wr => ∃ (k : Nat) (av : Option Addr) (cv : Nat), k ≤ 4 ∧ i = .int .u64 k ∧ v = .slice av k cv ∧ Hid (OwZ wr w1.heap.size (.slice av k cv) (bitL s N k)) ∧ Hid (Below w1.heap.size w1 wr)) (fun _ i _ => 4 - (intOf i).toNat)
    case atStart => exact ⟨0, _, _, Nat.zero_le _, rfl, rfl, hide (OwG.nil _ _), hide (Below.refl _ _)⟩
    case round =>
      obtain ⟨k, av, cv, hk, rfl, rfl, hO, hB⟩ := hrel
      by_cases hlt : k < 4
      · have hlt' : (k : Int) < 4 := by omega
        obtain ⟨e1, e2, e3⟩ := bit_num s N k lo od hlt hN0 (by rw [HLO.out, HH.out]) (by rw [HOD.out, HHI.out, HH.out])
        have hq : btN s N k < N := btN_lt s hN0 k
        obtain ⟨g, cg, w4, hrun, ho4, hb4⟩ := app_z hO.out hB.out.size (by rw [bitL_len]; omega) (btN s N k)
        rw [← bitL_succ, bitL_len] at ho4
        rw [bitL_len] at hrun
        have HO4 := hide ho4
        have HB4 := hide (show Below w1.heap.size w1 w4 from hB.out.trans hb4)
        clear ho4 hb4
        generalize btN s N k = q at *
        generalize lo + k * od = y at *
        generalize k * od = z at *
        go_wp2_with (at_builtin; refine wpList_runappY rfl (.tmp 25) (.tmp 35) 90 rfl rfl rfl rfl hrun ?_)
        clear e3 hrun
        go_roundw
        case rel => exact ⟨k + 1, _, _, by omega, by go_num, rfl, HO4, HB4⟩
        case measure => simp only [intOf]; omega
      · have hd : decide ((k : Int) < 4) = false := by simpa using (by omega : ¬ (k : Int) < 4)
        obtain rfl : k = 4 := by omega
        go_wp2
        go_ret
        exact ⟨_, _, rfl, hO.out, hB.out⟩
end Go.Proofs.Ytjkoemdojdcmpaa
