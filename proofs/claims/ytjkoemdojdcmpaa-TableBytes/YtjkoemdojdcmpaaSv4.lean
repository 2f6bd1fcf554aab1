/-
  What sieve.May and sieve.Make do.
-/
import Derived.Test.YtjkoemdojdcmpaaSv3
namespace Go.Proofs.Ytjkoemdojdcmpaa
open Go.RowKit
set_option linter.unusedVariables false
set_option linter.unusedSimpArgs false

def ecT (s : List UInt8) : List Value := [.string (bs s)]
theorem ecT_len (s : List UInt8) : (ecT s).length = 1 := rfl
def RdTx (w : World) (v : Value) (l : List (List UInt8)) : Prop := RdG 1 ecT w v l
def OwTx (w : World) (base : Nat) (v : Value) (l : List (List UInt8)) : Prop := OwG 1 ecT 9 w base v l
theorem RdTx.len {w : World} {a : Option Addr} {n c : Nat} {l : List (List UInt8)} (h : RdTx w (.slice a n c) l) : n = l.length := RdG.len h
theorem RdTx.at {w w' : World} {a : Option Addr} {n c : Nat} {l : List (List UInt8)} (h : RdTx w (.slice a n c) l) (hb : Below w.heap.size w w') (j : Nat) (hj : j < l.length) : ∃ b off, a = some ⟨b, off, none⟩ ∧ w'.cell? ⟨b, off + j, none⟩ = some (.string (bs l[j])) := by
  obtain ⟨b, off, e, q⟩ := RdG.atB h hb j hj
  have := q 0 _ rfl
  simp only [Nat.mul_one, Nat.add_zero] at this
  exact ⟨b, off, e, this⟩
theorem OwTx.rd {w : World} {base : Nat} {v : Value} {l : List (List UInt8)} (h : OwTx w base v l) : RdTx w v l := OwG.rd ecT_len h
theorem OwTx.carry {w w' : World} {base : Nat} {v : Value} {l : List (List UInt8)} (h : OwTx w base v l) (hb : Below w.heap.size w w') : OwTx w' base v l := OwG.carry h hb
theorem OwTx.nil (w : World) (base : Nat) : OwTx w base (.slice none 0 0) [] := OwG.nil w base

theorem make_sv0 (w : World) (N : Nat) (hN : N ≤ 100000) : ∃ w2, (Instr.makeSlice 22 (.int .i64 N) (.int .i64 N)).run Try.prog w = .ok (.slice (some ⟨w.heap.size, 0, none⟩) N N) w2 ∧ OwY w2 w.heap.size (.slice (some ⟨w.heap.size, 0, none⟩) N N) (List.replicate N 0) ∧ Below w.heap.size w w2 := by
  obtain ⟨i0, hi, hz0, hz1, hz2⟩ := info_parts Try.infoB
  obtain ⟨w2, hmake, hown2, hg2⟩ := run_make_full (P := Try.prog) w w.heap.size 22 5 i0 _ 1 Try.underlying22 hi hz0 hz1 .i64 .i64 N (by rw [hz2]; omega) (by unfold maxLen; omega) (Nat.le_refl _)
  refine ⟨w2, hmake, ?_, (Below.refl _ _).grown hg2 (Nat.le_refl _) (fun k hk => by cases hk)⟩
  show w2.ownsRow _ _ _ _ _ _
  rw [List.length_replicate]
  have e : (madeCells (Value.int IntKind.u8 0).cells (N * 1)).toList = u8v (List.replicate N 0) := by
    show (madeCells #[Value.int .u8 0] (N * 1)).toList = _
    rw [toList_madeCells_one]
    simp [u8v]
  rw [← e]
  exact hown2
theorem max_sv {b m : Nat} (h : m = max 8 b) (ts : Array TypeId) (t : TypeId) (wx : World) : (Builtin.max_ ts t #[.int .i64 8, .int .i64 b]).run Try.prog wx = .ok (.int .i64 m) wx := by
  rw [run_max_int2]
  congr 2
  split <;> omega

theorem OwY.form' {w : World} {base g n c : Nat} {l : List UInt8} (h : OwY w base (.slice (some ⟨g, 0, none⟩) n c) l) : n = l.length := by
  obtain ⟨_, _, e⟩ := h.form
  cases e
  rfl
theorem all_takeS {ks : List (List UInt8)} {k : Nat} (h : (ks.take k).all keyO = true) (hk : k < ks.length) (hx : keyO ks[k] = true) : (ks.take (k + 1)).all keyO = true := by
  rw [List.take_add_one, List.all_append, h, List.getElem?_eq_getElem hk]
  simp [hx]
theorem all_not {ks : List (List UInt8)} {k : Nat} (hk : k < ks.length) (hx : keyO ks[k] = false) (hl : ¬ 1024 < ks.length) : mkVE ks = 3 := by
  unfold mkVE
  rw [if_neg hl, if_neg]
  intro h
  have := List.all_eq_true.1 h _ (List.getElem_mem hk)
  rw [hx] at this
  cases this
theorem all_done {ks : List (List UInt8)} {k : Nat} (h : (ks.take k).all keyO = true) (hk : ¬ k < ks.length) (hl : ¬ 1024 < ks.length) : mkVE ks = 0 := by
  rw [List.take_of_length_le (by omega)] at h
  unfold mkVE
  rw [if_neg hl, if_pos h]

set_option maxHeartbeats 2000000 in
set_option maxRecDepth 100000 in
theorem make_sv (a : Option Addr) (n c : Nat) (ks : List (List UInt8)) (w : World) (hrd : RdTx w (.slice a n c) ks) :
    Calls Try.prog 49 #[.slice a n c] w fun e w' => ∃ a2 n2 c2, e = .returned (.tuple #[.slice a2 n2 c2, .int .i64 (mkVE ks : Nat)]) ∧ OwY w' w.heap.size (.slice a2 n2 c2) (mkVL ks) ∧ Below w.heap.size w w' := by
  have HN := hide hrd.len
  have HR := hide hrd
  clear hrd
  by_cases h1 : 1024 < n
  · have h1' : (1024 : Int) < n := by omega
    have HE := hide (show mkVE ks = 4 by unfold mkVE; rw [if_pos (by have := HN.out; omega)])
    have HV := hide (show mkVL ks = [] by unfold mkVL; rw [HE.out]; rfl)
    go_enter Try.func49, Try.ntmps49
    go_wp2
    go_ret2
    rw [HE.out, HV.out]
    exact ⟨_, _, _, rfl, OwY.nil _ _, Below.refl _ _⟩
  have h1' : decide ((1024 : Int) < n) = false := by simpa using (by omega : ¬ (1024 : Int) < n)
  obtain ⟨M, hM⟩ : ∃ M, M = max 8 n := ⟨_, rfl⟩
  have hmax := fun ts t wx => max_sv hM ts t wx
  have HM := hide hM
  have hM1 : 8 ≤ M := by omega
  have hM2 : M ≤ 1024 := by omega
  have HL := hide (show ¬ 1024 < ks.length by have := HN.out; omega)
  clear hM
  go_enter Try.func49, Try.ntmps49
  go_wp2_with fail
  go_loopw [14] (fun i wr => ∃ k : Nat, k ≤ n ∧ i = .int .i64 k ∧ Hid ((ks.take k).all keyO = true) ∧ wr = w) (fun i _ => n - (intOf i).toNat)
  case atStart => exact ⟨0, Nat.zero_le _, rfl, hide rfl, rfl⟩
  case round =>
    obtain ⟨k, hk, rfl, hz, rfl⟩ := hrel
    by_cases hlt : k < n
    · have hlt' : (k : Int) < n := by omega
      have hkl : k < ks.length := by have := HN.out; omega
      obtain ⟨b, off, ha, q0⟩ := HR.out.at (Below.refl _ _) k hkl
      subst ha
      have HA := hide (show keyO ks[k] = true → (ks.take (k + 1)).all keyO = true from fun h => all_takeS hz.out hkl h)
      have HX := hide (show keyO ks[k] = false → mkVE ks = 3 from fun h => all_not hkl h HL.out)
      generalize ks[k] = x at *
      clear hkl
      go_wp2_with fail
      refine (keyMayBe_sv x _).mono ?_
      rintro e w2 ⟨rfl, rfl⟩
      cases hq : keyO x with
      | true =>
        have HZ := hide (HA.out hq)
        clear hq
        go_wp2
        go_roundw
        case rel => exact ⟨k + 1, by omega, by go_num, HZ, by first | rfl | trivial⟩
        case measure => simp only [intOf]; omega
      | false =>
        have HE := hide (HX.out hq)
        have HV := hide (show mkVL ks = [] by unfold mkVL; rw [HE.out]; rfl)
        clear hq
        go_wp2
        go_ret2
        rw [HE.out, HV.out]
        exact ⟨_, _, _, rfl, OwY.nil _ _, Below.refl _ _⟩
    · have hd : decide ((k : Int) < n) = false := by simpa using (by omega : ¬ (k : Int) < n)
      have HE := hide (show mkVE ks = 0 from all_done hz.out (by have := HN.out; omega) HL.out)
      obtain ⟨w2, hmk, o2, b2⟩ := make_sv0 wr M (by omega)
      obtain ⟨g, hg⟩ : ∃ g, g = wr.heap.size := ⟨_, rfl⟩
      rw [← hg] at hmk o2
      have HG := hide hg
      have HO2 := hide (show OwY w2 wr.heap.size (.slice (some ⟨g, 0, none⟩) M M) (List.replicate M 0) by rw [hg] at o2; rw [hg]; exact o2)
      obtain ⟨p, hp⟩ : ∃ p, w2.heap.size = p := ⟨_, rfl⟩
      obtain ⟨w3, hw3⟩ : ∃ w3, (w2.alloc (.cells #[.slice none 0 0] 22)).setCell ⟨p, 0, none⟩ (.slice (some ⟨g, 0, none⟩) M M) = w3 := ⟨_, rfl⟩
      have hba : Below w2.heap.size w2 (w2.alloc (.cells #[.slice none 0 0] 22)) := (Below.refl _ _).alloc (Nat.le_refl _) _
      have hb3 : Below w2.heap.size w2 w3 := by rw [← hw3]; exact belowX_set hba (by rw [hp]; exact Nat.le_refl _) 0 _
      have HP3 := hide (show Bx w3 p 22 #[.slice (some ⟨g, 0, none⟩) M M] by
        rw [← hw3]
        have := Bx.new w2 22 #[.slice none 0 0]
        rw [hp] at this
        exact this.put 0 _)
      have HO3 := hide (HO2.out.carry hb3)
      have HB3 := hide (show Below wr.heap.size wr w3 from b2.trans (hb3.mono b2.size))
      have xa : (w2.alloc (.cells #[.slice none 0 0] 22)).cell? ⟨p, 0, none⟩ = some (.slice none 0 0) := by
        rw [← hp]
        exact (Bx.new w2 22 #[.slice none 0 0]).at 0 rfl
      have xz : (w2.alloc (.cells #[.slice none 0 0] 22)).frozen? ⟨p, 0, none⟩ = false := by
        rw [← hp]
        exact (Bx.new w2 22 #[.slice none 0 0]).fz 0
      clear hba hb3 b2 o2 HO2 hg
      go_wp2_with (refine wpList_mkY rfl (.tmp 24) (.tmp 24) 22 rfl rfl rfl hmk ?_)
      clear xa xz hmk hp hw3 hmax HG
      obtain ⟨w9, h9⟩ : ∃ w9, w9 = wr := ⟨_, rfl⟩
      subst h9
      go_loopw [28] (fun i wx => ∃ k : Nat, k ≤ n ∧ i = .int .i64 k ∧ Hid (OwY wx w9.heap.size (.slice (some ⟨g, 0, none⟩) M M) (ptL (M * 8) (ks.take k) (List.replicate M 0))) ∧ Hid (Bx wx p 22 #[.slice (some ⟨g, 0, none⟩) M M]) ∧ Hid (Below w9.heap.size w9 wx)) (fun i _ => n - (intOf i).toNat)
      case atStart => exact ⟨0, Nat.zero_le _, rfl, HO3, HP3, HB3⟩
      case round =>
        clear HO3 HP3 HB3 hz hd hlt
        obtain ⟨j, hj, rfl, hO, hP, hB⟩ := hrel
        by_cases hlt : j < n
        · have hlt' : (j : Int) < n := by omega
          have hjl : j < ks.length := by have := HN.out; omega
          obtain ⟨b, off, ha, q0⟩ := HR.out.at hB.out j hjl
          subst ha
          have HT := hide (ptL_take (M * 8) ks (List.replicate M 0) j hjl)
          have HS := hide (show (ks[j]).length ≤ 1000000 by
            have := (mk_zero HE.out).2 _ (List.getElem_mem hjl)
            unfold keyO at this
            simp only [Bool.and_eq_true, decide_eq_true_eq] at this
            omega)
          generalize ks[j] = x at *
          have x0 : wr.cell? ⟨p, 0, none⟩ = some (.slice (some ⟨g, 0, none⟩) M M) := hP.out.at 0 rfl
          clear hjl
          go_wp2_with fail
          refine (eachMake_sv g M M w9.heap.size (ptL (M * 8) (ks.take j) (List.replicate M 0)) x p wr hO.out hB.out.size hO.out.form' hP.out (by omega) (by omega) HS.out).mono ?_
          rintro e w5 ⟨rfl, hS⟩
          rw [← HT.out] at hS
          have HO5 := hide hS.1
          have HP5 := hide (hP.out.keep hS.2.2 (by decide))
          have HB5 := hide (hB.out.trans hS.2.1)
          clear hS x0 q0
          go_wp2
          go_roundw
          case rel => exact ⟨j + 1, by omega, by go_num, HO5, HP5, HB5⟩
          case measure => simp only [intOf]; omega
        · have hd : decide ((j : Int) < n) = false := by simpa using (by omega : ¬ (j : Int) < n)
          have x0 : wr.cell? ⟨p, 0, none⟩ = some (.slice (some ⟨g, 0, none⟩) M M) := hP.out.at 0 rfl
          have HV := hide (show mkVL ks = ptL (M * 8) (ks.take j) (List.replicate M 0) by
            unfold mkVL sieveL szV
            rw [if_pos HE.out, HM.out, List.take_of_length_le (by have := HN.out; omega), HN.out])
          go_wp2
          go_ret2
          rw [HE.out, HV.out]
          exact ⟨_, _, _, rfl, hO.out, hB.out⟩
end Go.Proofs.Ytjkoemdojdcmpaa
