/-
  What the document's Make and Heavy of layer 13 do.
-/
import Derived.Test.YtjkoemdojdcmpaaSr1
namespace Go.Proofs.Ytjkoemdojdcmpaa
open Go.RowKit
set_option linter.unusedVariables false
set_option linter.unusedSimpArgs false

set_option maxHeartbeats 2000000 in
set_option maxRecDepth 100000 in
theorem rmake_sv (a : Option Addr) (n c : Nat) (ks : List (List UInt8)) (w : World) (hrd : RdTx w (.slice a n c) ks) :
    Calls Try.prog 30 #[.slice a n c] w fun e w' => ∃ a2 n2 c2, e = .returned (.tuple #[.slice a2 n2 c2, .int .i64 (mkVE ks : Nat)]) ∧ OwY w' w.heap.size (.slice a2 n2 c2) (mkVL ks) ∧ Below w.heap.size w w' := by
  have HN := hide hrd.len
  have HR := hide hrd
  clear hrd
  by_cases h1 : 1024 < n
  · have h1' : (1024 : Int) < n := by omega
    have HE := hide (show mkVE ks = 4 by unfold mkVE; rw [if_pos (by have := HN.out; omega)])
    have HV := hide (show mkVL ks = [] by unfold mkVL; rw [HE.out]; rfl)
    go_enter Try.func30, Try.ntmps30
    go_wp2
    go_ret2
    rw [HE.out, HV.out]
    exact ⟨_, _, _, rfl, OwY.nil _ _, Below.refl _ _⟩
  have h1' : decide ((1024 : Int) < n) = false := by simpa using (by omega : ¬ (1024 : Int) < n)
  obtain ⟨M, hM⟩ : ∃ M, M = max 8 n := ⟨_, rfl⟩
  have hmax := fun ts t wx => max_sv hM ts t wx
  have HM := hide hM
  have hM1 : 8 ≤ M := by omega
  have hM2 : M ≤ 1024 := by omega
  have HL := hide (show ¬ 1024 < ks.length by have := HN.out; omega)
  clear hM
  go_enter Try.func30, Try.ntmps30
  go_wp2_with fail
  go_loopw [4] (fun i wr => ∃ k : Nat, k ≤ n ∧ i = .int .i64 k ∧ Hid ((ks.take k).all keyO = true) ∧ wr = w) (fun i _ => n - (intOf i).toNat)
  case atStart => exact ⟨0, Nat.zero_le _, rfl, hide rfl, rfl⟩
  case round =>
    obtain ⟨k, hk, rfl, hz, rfl⟩ := hrel
    by_cases hlt : k < n
    · have hlt' : (k : Int) < n := by omega
      have hkl : k < ks.length := by have := HN.out; omega
      obtain ⟨b, off, ha, q0⟩ := HR.out.at (Below.refl _ _) k hkl
      subst ha
      have HA := hide (show keyO ks[k] = true → (ks.take (k + 1)).all keyO = true from fun h => all_takeS hz.out hkl h)
      have HX := hide (show keyO ks[k] = false → mkVE ks = 3 from fun h => all_not hkl h HL.out)
      generalize ks[k] = x at *
      clear hkl
      go_wp2_with fail
      refine (rkeyed_sv x _).mono ?_
      rintro e w2 ⟨rfl, rfl⟩
      cases hq : keyO x with
      | true =>
        have HZ := hide (HA.out hq)
        clear hq
        go_wp2
        go_roundw
        case rel => exact ⟨k + 1, by omega, by go_num, HZ, by first | rfl | trivial⟩
        case measure => simp only [intOf]; omega
      | false =>
        have HE := hide (HX.out hq)
        have HV := hide (show mkVL ks = [] by unfold mkVL; rw [HE.out]; rfl)
        clear hq
        go_wp2
        go_ret2
        rw [HE.out, HV.out]
        exact ⟨_, _, _, rfl, OwY.nil _ _, Below.refl _ _⟩
    · have hd : decide ((k : Int) < n) = false := by simpa using (by omega : ¬ (k : Int) < n)
      have HE := hide (show mkVE ks = 0 from all_done hz.out (by have := HN.out; omega) HL.out)
      obtain ⟨w2, hmk, o2, b2⟩ := make_sv0 wr M (by omega)
      obtain ⟨g, hg⟩ : ∃ g, g = wr.heap.size := ⟨_, rfl⟩
      rw [← hg] at hmk o2
      have HO3 := hide (show OwY w2 wr.heap.size (.slice (some ⟨g, 0, none⟩) M M) (List.replicate M 0) by rw [hg] at o2; rw [hg]; exact o2)
      have HB3 := hide b2
      clear b2 o2 hg
      go_wp2_with (refine wpList_mkY rfl (.tmp 28) (.tmp 28) 22 rfl rfl rfl hmk ?_)
      clear hmk hmax
      obtain ⟨w9, h9⟩ : ∃ w9, w9 = wr := ⟨_, rfl⟩
      subst h9
      go_loopw [6] (fun i wx => ∃ k : Nat, k ≤ n ∧ i = .int .i64 k ∧ Hid (OwY wx w9.heap.size (.slice (some ⟨g, 0, none⟩) M M) (ptL (M * 8) (ks.take k) (List.replicate M 0))) ∧ Hid (Below w9.heap.size w9 wx)) (fun i _ => n - (intOf i).toNat)
      case atStart => exact ⟨0, Nat.zero_le _, rfl, HO3, HB3⟩
      case round =>
        clear HO3 HB3 hz hd hlt
        obtain ⟨j, hj, rfl, hO, hB⟩ := hrel
        by_cases hlt : j < n
        · have hlt' : (j : Int) < n := by omega
          have hjl : j < ks.length := by have := HN.out; omega
          obtain ⟨b, off, ha, q0⟩ := HR.out.at hB.out j hjl
          subst ha
          have HT := hide (ptL_take (M * 8) ks (List.replicate M 0) j hjl)
          have HS := hide (show (ks[j]).length ≤ 1000000 by
            have := (mk_zero HE.out).2 _ (List.getElem_mem hjl)
            unfold keyO at this
            simp only [Bool.and_eq_true, decide_eq_true_eq] at this
            omega)
          generalize ks[j] = x at *
          generalize ptL (M * 8) (ks.take j) (List.replicate M 0) = B at *
          have HML := hide (show M = B.length from hO.out.form')
          clear hjl
          obtain ⟨w8, h8⟩ : ∃ w8, w8 = wr := ⟨_, rfl⟩
          subst h8
          go_wp2_with fail
          rw [show (8 * (M : Int)) = ((M * 8 : Nat) : Int) by omega]
          refine (rbits_sv x (M * 8) w8 (by omega) (by omega) HS.out).mono ?_
          rintro e w5 ⟨al, cl, rfl, hZ, hB5⟩
          obtain ⟨N, hN⟩ : ∃ N, N = M * 8 := ⟨_, rfl⟩
          rw [← hN] at hZ HT ⊢
          have HNN := hide hN
          have hN0 : 0 < N := by omega
          have HZ5 := hide (show OwZ w5 w8.heap.size (.slice al 4 cl) (bitL x N 4) from hZ)
          have HO5 := hide (hO.out.carry hB5)
          have HB5 := hide (show Below w9.heap.size w9 w5 from hB.out.trans (hB5.mono hB.out.size))
          clear hZ hB5 hN q0 hO hB
          go_wp2_with fail
          go_loopw [8] (fun i wx => ∃ k : Nat, k ≤ 4 ∧ i = .int .i64 k ∧ Hid (OwY wx w9.heap.size (.slice (some ⟨g, 0, none⟩) M M) (ptK x N k B)) ∧ Hid (OwZ wx w8.heap.size (.slice al 4 cl) (bitL x N 4)) ∧ Hid (Below w9.heap.size w9 wx)) (fun i _ => 4 - (intOf i).toNat)
          case atStart => exact ⟨0, Nat.zero_le _, rfl, HO5, HZ5, HB5⟩
          case round =>
            clear HO5 HZ5 HB5
            obtain ⟨i, hi, rfl, hO, hZ, hB⟩ := hrel
            by_cases hlt4 : i < 4
            · have hlt4' : (i : Int) < 4 := by omega
              obtain ⟨gl, ol, ha, ql⟩ := hZ.out.rd.at (Below.refl _ _) i (by rw [bitL_len]; exact hlt4)
              subst ha
              rw [bitL_at] at ql
              have HP := hide (show ptK x N (i + 1) B = stB (ptK x N i B) (btN x N i) from rfl)
              have HBL := hide (show M = (ptK x N i B).length by rw [ptK_len]; exact HML.out)
              have hq : btN x N i / 8 < M := by have := btN_lt x hN0 i; have := HNN.out; omega
              generalize ptK x N i B = D at *
              generalize btN x N i = q at *
              obtain ⟨g', off', ha, qb⟩ := rd_cellX hO.out.rd (q / 8) (by have := HBL.out; omega)
              cases ha
              rw [Nat.zero_add] at qb
              obtain ⟨m, hm1, hm2⟩ := bit_shl q
              have e1 := or_bit (D[q / 8]'(by have := HBL.out; omega)) q m hm1
              have HU := hide (show D.set (q / 8) (UInt8.ofNat ((D[q / 8]'(by have := HBL.out; omega)).toNat ||| 2 ^ (q % 8))) = stB D q by unfold stB; rw [getD_at D (q / 8) (by have := HBL.out; omega)])
              have hfz : wr.frozen? ⟨g, q / 8, none⟩ = false := World.ownsRow.frozenAt (show wr.ownsRow _ _ _ _ _ _ by have := hO.out; unfold OwY at this; rw [← HBL.out] at this; exact this) _
              generalize D[q / 8]'(by have := HBL.out; omega) = y at *
              generalize UInt8.ofNat (y.toNat ||| 2 ^ (q % 8)) = z at *
              obtain ⟨s1, s2, s3⟩ := hO.out.setY (q / 8) z hB.out.size
              rw [HU.out, ← HP.out] at s1
              have HO6 := hide s1
              have HZ6 := hide (OwG.keep hZ.out s3 (by decide))
              have HB6 := hide (hB.out.trans s2)
              clear s1 s2 s3
              obtain ⟨k8, hk8⟩ : ∃ k8, k8 = q / 8 := ⟨_, rfl⟩
              obtain ⟨m8, hm8⟩ : ∃ m8, m8 = q % 8 := ⟨_, rfl⟩
              rw [← hk8] at hq qb hfz HO6 HZ6 HB6
              rw [← hm8] at hm2
              have f1 : (q : Int) / 8 = (k8 : Int) := by omega
              have f2 : (q : Int) % 8 = (m8 : Int) := by omega
              have hq' : (k8 : Int) < M := by omega
              have hm88 : m8 < 8 := by omega
              clear hk8 hm8 HU HP HBL hm1
              go_wp2
              exact ⟨⟨i + 1, by omega, by go_num, HO6, HZ6, HB6⟩, by simp only [intOf]; omega⟩
            · have hd4 : decide ((i : Int) < 4) = false := by simpa using (by omega : ¬ (i : Int) < 4)
              obtain rfl : i = 4 := by omega
              rw [← HT.out] at hO
              rw [HNN.out] at hO
              clear HT
              go_wp2
              first | exact ⟨⟨j + 1, by omega, by go_num, hO, hB⟩, by simp only [intOf]; omega⟩ | (go_roundw; (case rel => exact ⟨j + 1, by omega, by go_num, hO, hB⟩); (case measure => simp only [intOf]; omega))
        · have hd : decide ((j : Int) < n) = false := by simpa using (by omega : ¬ (j : Int) < n)
          have HV := hide (show mkVL ks = ptL (M * 8) (ks.take j) (List.replicate M 0) by
            unfold mkVL sieveL szV
            rw [if_pos HE.out, HM.out, List.take_of_length_le (by have := HN.out; omega), HN.out])
          go_wp2
          go_ret2
          rw [HE.out, HV.out]
          exact ⟨_, _, _, rfl, hO.out, hB.out⟩

end Go.Proofs.Ytjkoemdojdcmpaa
