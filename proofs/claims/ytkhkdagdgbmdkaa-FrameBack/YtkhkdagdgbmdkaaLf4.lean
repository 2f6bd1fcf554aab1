/-
  FrameBack.
-/
import Derived.Test.YtkhkdagdgbmdkaaLf2
namespace Go.Proofs.Ytkhkdagdgbmdkaa
open Go.RowKit
set_option linter.unusedVariables false
set_option linter.unusedSimpArgs false

theorem row_all {h : Hd} {r : List UInt8} : ∀ b ∈ rowB h r, b.length = 128 := by
  intro b hb
  obtain ⟨j, hj, rfl⟩ := List.mem_iff_getElem.1 hb
  rw [rowB_get, fillB_len]
theorem back_first {g n s p : Nat} {r : List UInt8} {l : List (List UInt8)} (hs : s < 4294967296) (he : frmE (g, n, s, p) r = 0) (hl : l.length ≤ 300) (hall : ∀ b ∈ l, b.length = 128) :
    opnE g n p (rowB (g, n, s, p) r ++ l) = 0 ∧ opnR g n p (rowB (g, n, s, p) r ++ l) = (r, s, (rowB (g, n, s, p) r).length) := by
  have hc : chkL (rowB (g, n, s, p) r ++ l) = 0 := by
    refine chkL_of ?_ ?_
    · rw [List.length_append, rowB_len]; have := needN_le r.length (frmE_ok he).2.2; omega
    · intro b hb
      rcases List.mem_append.1 hb with hb | hb
      · exact row_all b hb
      · exact hall b hb
  have ho := opn_row l hs he
  refine ⟨?_, ?_⟩
  · unfold opnE
    rw [if_neg (fun h => h hc), ho, if_neg]
    have := needN_pos r.length
    show ¬ (rowB (g, n, s, p) r).length = 0
    rw [rowB_len]; omega
  · unfold opnR
    rw [if_neg (fun h => h hc), ho]
theorem need_if (n0 N : Nat) (h : N = needN n0) : (if (1 : Int) < ((n0 : Int) + 106) / 107 then ((n0 : Int) + 106) / 107 else 1) = (N : Int) := by
  subst h; unfold needN; split <;> omega
theorem rowB_small {h : Hd} {r : List UInt8} (hr : r.length ≤ 16384) : (rowB h r).length ≤ 154 := by rw [rowB_len]; exact needN_le _ hr

set_option maxHeartbeats 4000000 in
set_option maxRecDepth 100000 in
theorem frameBack_any (gn nm sl pv : Nat) (a0 : Option Addr) (n0 c0 : Nat) (r : List UInt8) (a : Option Addr) (n c : Nat) (l : List (List UInt8)) (w : World) (hg : gn < 4294967296) (hnm : nm < 4294967296) (hsl : sl < 4294967296) (hpv : pv < 4294967296) (hr0 : Rd w (.slice a0 n0 c0) r) (hn0 : n0 = r.length) (hrd : RdL w (.slice a n c) l) :
    Calls Try.prog 6 #[.int .u32 gn, .int .u32 nm, .int .u32 sl, .int .u32 pv, .slice a0 n0 c0, .slice a n c] w fun e w' => e = .returned (.bool true) ∧ Below w.heap.size w w' := by
  have HR := hide hrd
  have HN := hide hrd.le.1
  have hncc := hrd.le.2.1
  have HR0 := hide hr0
  have HN0 := hide hn0
  have HG := hide (show gn < 4294967296 ∧ nm < 4294967296 ∧ sl < 4294967296 ∧ pv < 4294967296 from ⟨hg, hnm, hsl, hpv⟩)
  clear hrd hr0 hn0 hg hnm hsl hpv
  go_enter Try.func6, Try.ntmps6
  go_wp2_with fail
  refine (alive8_any _).mono ?_
  rintro e w1 ⟨rfl, hb1⟩
  by_cases h20 : 20000 < n0
  · have h20' : (20000 : Int) < n0 := by omega
    go_wp2
    go_ret
    exact ⟨rfl, hb1⟩
  · have h20' : decide ((20000 : Int) < n0) = false := by simpa using (by omega : ¬ (20000 : Int) < n0)
    by_cases h3 : 300 < n
    · have h3' : (300 : Int) < n := by omega
      go_wp2
      go_ret
      exact ⟨rfl, hb1⟩
    · have h3' : decide ((300 : Int) < n) = false := by simpa using (by omega : ¬ (300 : Int) < n)
      have hn3 : n ≤ 300 := by omega
      have hn20 : n0 ≤ 20000 := by omega
      clear h3 h20
      go_wp2
      clear h3' h20'
      go_loop [14] (fun i => ∃ k : Nat, k ≤ n ∧ i = .int .i64 k ∧ Hid (okL (l.take k) = true)) (fun i => n - (intOf i).toNat)
      case atStart => exact ⟨0, Nat.zero_le _, rfl, hide (by simp [okL])⟩
      case round =>
        obtain ⟨k, hk, rfl, hok⟩ := hrel
        by_cases hlt : k < n
        · have hlt' : (k : Int) < n := by omega
          have hkl : k < l.length := by have := HN.out; omega
          obtain ⟨b, off, y, z, rfl, q0, q1⟩ := (HR.out.carry hb1).at k hkl
          clear q1
          obtain ⟨m, hm⟩ : ∃ m, m = (l[k]).length := ⟨_, rfl⟩
          rw [← hm] at q0
          have HM := hide hm
          clear hm
          by_cases h1 : m = 128
          · have HT := hide (show okL (l.take (k + 1)) = true by rw [okL_take_succ _ _ hkl, hok.out, ← HM.out, h1]; rfl)
            subst h1
            go_wp2
            exact ⟨⟨k + 1, by omega, rfl, HT⟩, by simp only [intOf]; omega⟩
          · have h1' : ((m : Int) != 128) = true := by simpa using (by omega : ¬ (m : Int) = 128)
            clear h1
            go_wp2
            go_ret
            exact ⟨rfl, hb1⟩
        · have hd : decide ((k : Int) < n) = false := by simpa using (by omega : ¬ (k : Int) < n)
          have HA := hide ((okL_iff l).1 (show okL l = true by have := hok.out; rwa [List.take_of_length_le (by rw [← HN.out]; omega)] at this))
          clear hok
          go_wp2_with fail
          refine (frame_any (gn, nm, sl, pv) a0 n0 c0 r _ (okH_of HG.out.1 HG.out.2.1 HG.out.2.2.1 HG.out.2.2.2) HN0.out (HR0.out.carry hb1)).mono ?_
          clear hd hlt hk
          rintro e w3 ⟨v3, rfl, hO3, hb3⟩
          have hB3 : Below w.heap.size w w3 := hb1.trans (hb3.mono hb1.size)
          clear hb3 hb1
          by_cases he : frmE (gn, nm, sl, pv) r = 0
          · have HE := hide he
            rw [he]
            rw [frmL_0 he] at hO3
            obtain ⟨a3, c3, hf3⟩ := hO3.form
            subst hf3
            have HO3 := hide hO3
            have HRL := hide (rowB_small (h := (gn, nm, sl, pv)) (frmE_ok he).2.2)
            obtain ⟨hb0E, hb0R⟩ := back_first (g := gn) (n := nm) (p := pv) HG.out.2.2.1 he (show l.length ≤ 300 by rw [← HN.out]; exact hn3) HA.out
            have HBE := hide hb0E
            have HBR := hide hb0R
            obtain ⟨N, hN⟩ : ∃ N, N = (rowB (gn, nm, sl, pv) r).length := ⟨_, rfl⟩
            have HNE := hide (show N = needN n0 by rw [hN, rowB_len, HN0.out])
            have HNN := hide hN
            rw [← hN]
            rw [← hN] at HO3 HBR HRL
            clear he hO3 hb0E hb0R hN
            go_wp2_with (first | (at_builtin; refine wpList_appR w3 w3 rfl (.const (.slice none 0 0)) (.tmp 67) 22 rfl Try.underlying22 Try.infoSl8 _ [] (RowR.nil _ _) rfl (Below.refl _ _) _ (rowB (gn, nm, sl, pv) r) HO3.out.rdL rfl (by rw [← HNN.out]; have := HRL.out; simp; omega) ?_; intro v4 w4 hrow4 hbel4; have HROW4 := hide hrow4; clear hrow4) | (at_builtin; refine wpList_appR w3 w4 rfl (.tmp 68) (.tmp 69) 22 rfl Try.underlying22 Try.infoSl8 _ _ HROW4.out rfl hbel4 _ l (HR.out.carry hB3) rfl (by rw [List.nil_append, ← HNN.out]; have := HRL.out; have := HN.out; omega) ?_; intro v5 w5 hrow5 hbel5; rw [List.nil_append] at hrow5; obtain ⟨a5, c5, hf5⟩ := hrow5.form; obtain ⟨n5, hn5⟩ : ∃ n5, n5 = (rowB (gn, nm, sl, pv) r ++ l).length := ⟨_, rfl⟩; rw [← hn5] at hf5; have HN5 := hide hn5; clear hn5; subst hf5; have HROW5 := hide (hrow5.rdL hbel5); clear hrow5 HROW4 hbel4))
            refine (open_fr gn nm pv a5 n5 c5 _ _ HG.out.1 HG.out.2.1 HG.out.2.2.2 HROW5.out).mono ?_
            rintro e w6 ⟨v6, rfl, hO6, hb6⟩
            have hB5 : Below w.heap.size w w5 := hB3.trans (hbel5.mono hB3.size)
            have hB6 : Below w.heap.size w w6 := hB5.trans (hb6.mono hB5.size)
            rw [HBE.out, HBR.out]
            rw [HBR.out] at hO6
            have hcv1 := conv_rd (P := Try.prog) 25 5 9 Try.underlying25 Try.underlying5 Try.underlying9 hO6.rd
            have hcv2 := conv_rd (P := Try.prog) 25 5 9 Try.underlying25 Try.underlying5 Try.underlying9 (HR0.out.carry hB6)
            have hmx := need_if n0 N HNE.out
            have HV6 := hide hO6.form
            clear hO6 hb6 hbel5 hB5 HN5 hB3
            go_wp2_with fail
            refine (open_fr gn nm pv a n c l _ HG.out.1 HG.out.2.1 HG.out.2.2.2 (HR.out.carry hB6)).mono ?_
            rintro e w7 ⟨v7, rfl, hO7, hb7⟩
            have hB7 : Below w.heap.size w w7 := hB6.trans (hb7.mono hB6.size)
            clear hb7
            have hck : chkL l = 0 := chkL_of (by rw [← HN.out]; omega) HA.out
            rw [show opnR gn nm pv l = opn gn nm pv l by unfold opnR; rw [if_neg (fun h => h hck)]] at hO7 ⊢
            rw [show opnE gn nm pv l = if (opn gn nm pv l).2.2 = 0 then 6 else 0 by unfold opnE; rw [if_neg (fun h => h hck)]]
            clear hck
            by_cases hk : (opn gn nm pv l).2.2 = 0
            · rw [if_pos hk]
              rw [opn_zeros hk] at hO7 ⊢
              obtain ⟨a7, c7, hf7⟩ := hO7.form
              subst hf7
              clear hO7 hk
              go_wp2
              go_ret
              exact ⟨rfl, hB7⟩
            · rw [if_neg hk]
              obtain ⟨ho1, ho2⟩ := opn_only hk
              have hkl := opn_le gn nm pv l
              have hsa := opn_salt gn nm pv l
              obtain ⟨⟨orec, os, oK⟩, ho⟩ : ∃ o, o = opn gn nm pv l := ⟨_, rfl⟩
              rw [← ho] at hO7 hkl hsa ho1 ho2 hk ⊢
              obtain ⟨a7, c7, hf7⟩ := hO7.form
              have HO7 := hide hO7
              have ho1 : frmE (gn, nm, os, pv) orec = 0 := ho1
              have ho2 : rowB (gn, nm, os, pv) orec = l.take oK := ho2
              have hk : oK ≠ 0 := hk
              have hkl : oK ≤ l.length := hkl
              have hsa : os < 4294967296 := hsa
              have HSA := hide hsa
              have HO1 := hide ho1
              have HO2 := hide ho2
              have HRT := hide (HR.out.take oK hkl)
              subst hf7
              have hkn : oK ≤ n := by rw [HN.out]; exact hkl
              have hc0 : ¬ c = 0 := by omega
              have HRK := hide (show (rowB (gn, nm, os, pv) orec).length = oK by rw [ho2, List.length_take]; omega)
              clear ho hO7 hkl hsa ho1 ho2 hk
              go_wp2_with fail
              refine (frame_any (gn, nm, os, pv) a7 orec.length c7 orec _ (okH_of HG.out.1 HG.out.2.1 HSA.out HG.out.2.2.2) rfl HO7.out.rd).mono ?_
              rintro e w8 ⟨v8, rfl, hO8, hb8⟩
              have hB8 : Below w.heap.size w w8 := hB7.trans (hb8.mono hB7.size)
              rw [HO1.out]
              rw [frmL_0 HO1.out] at hO8
              obtain ⟨a8, c8, hf8⟩ := hO8.form
              subst hf8
              rw [HRK.out]
              rw [HRK.out] at hO8
              have HO8 := hide hO8
              have hkc : (oK : Int) ≤ c := by omega
              have hkc2 : oK ≤ c := by omega
              have hkn2 : (oK : Int) ≤ n := by omega
              clear hO8 hb8 hB7
              go_wp2_with fail
              refine (same8_any _ _ _ _ _ _ _ _ _ HO8.out.rdL (HRT.out.carry hB8)).mono ?_
              rintro e w9 ⟨rfl, hb9⟩
              have hB9 : Below w.heap.size w w9 := hB8.trans (hb9.mono hB8.size)
              rw [decide_eq_true HO2.out]
              clear hb9
              go_wp2
              go_ret
              exact ⟨rfl, hB9⟩
          · have HE := hide he
            obtain ⟨a3, c3, hf3⟩ := hO3.form
            obtain ⟨E, hE⟩ : ∃ E, E = frmE (gn, nm, sl, pv) r := ⟨_, rfl⟩
            rw [← hE] at he ⊢
            have hne : (E == 0) = false := by simpa using he
            clear hE he hO3
            subst hf3
            go_wp2_with fail
            refine (open_fr gn nm pv a n c l _ HG.out.1 HG.out.2.1 HG.out.2.2.2 (HR.out.carry hB3)).mono ?_
            rintro e w7 ⟨v7, rfl, hO7, hb7⟩
            have hB7 : Below w.heap.size w w7 := hB3.trans (hb7.mono hB3.size)
            clear hb7
            have hck : chkL l = 0 := chkL_of (by rw [← HN.out]; omega) HA.out
            rw [show opnR gn nm pv l = opn gn nm pv l by unfold opnR; rw [if_neg (fun h => h hck)]] at hO7 ⊢
            rw [show opnE gn nm pv l = if (opn gn nm pv l).2.2 = 0 then 6 else 0 by unfold opnE; rw [if_neg (fun h => h hck)]]
            clear hck
            by_cases hk : (opn gn nm pv l).2.2 = 0
            · rw [if_pos hk]
              rw [opn_zeros hk] at hO7 ⊢
              obtain ⟨a7, c7, hf7⟩ := hO7.form
              subst hf7
              clear hO7 hk
              go_wp2
              go_ret
              exact ⟨rfl, hB7⟩
            · rw [if_neg hk]
              obtain ⟨ho1, ho2⟩ := opn_only hk
              have hkl := opn_le gn nm pv l
              have hsa := opn_salt gn nm pv l
              obtain ⟨⟨orec, os, oK⟩, ho⟩ : ∃ o, o = opn gn nm pv l := ⟨_, rfl⟩
              rw [← ho] at hO7 hkl hsa ho1 ho2 hk ⊢
              obtain ⟨a7, c7, hf7⟩ := hO7.form
              have HO7 := hide hO7
              have ho1 : frmE (gn, nm, os, pv) orec = 0 := ho1
              have ho2 : rowB (gn, nm, os, pv) orec = l.take oK := ho2
              have hk : oK ≠ 0 := hk
              have hkl : oK ≤ l.length := hkl
              have hsa : os < 4294967296 := hsa
              have HSA := hide hsa
              have HO1 := hide ho1
              have HO2 := hide ho2
              have HRT := hide (HR.out.take oK hkl)
              subst hf7
              have hkn : oK ≤ n := by rw [HN.out]; exact hkl
              have hc0 : ¬ c = 0 := by omega
              have HRK := hide (show (rowB (gn, nm, os, pv) orec).length = oK by rw [ho2, List.length_take]; omega)
              clear ho hO7 hkl hsa ho1 ho2 hk
              go_wp2_with fail
              refine (frame_any (gn, nm, os, pv) a7 orec.length c7 orec _ (okH_of HG.out.1 HG.out.2.1 HSA.out HG.out.2.2.2) rfl HO7.out.rd).mono ?_
              rintro e w8 ⟨v8, rfl, hO8, hb8⟩
              have hB8 : Below w.heap.size w w8 := hB7.trans (hb8.mono hB7.size)
              rw [HO1.out]
              rw [frmL_0 HO1.out] at hO8
              obtain ⟨a8, c8, hf8⟩ := hO8.form
              subst hf8
              rw [HRK.out]
              rw [HRK.out] at hO8
              have HO8 := hide hO8
              have hkc : (oK : Int) ≤ c := by omega
              have hkc2 : oK ≤ c := by omega
              have hkn2 : (oK : Int) ≤ n := by omega
              clear hO8 hb8 hB7
              go_wp2_with fail
              refine (same8_any _ _ _ _ _ _ _ _ _ HO8.out.rdL (HRT.out.carry hB8)).mono ?_
              rintro e w9 ⟨rfl, hb9⟩
              have hB9 : Below w.heap.size w w9 := hB8.trans (hb9.mono hB8.size)
              rw [decide_eq_true HO2.out]
              clear hb9
              go_wp2
              go_ret
              exact ⟨rfl, hB9⟩

end Go.Proofs.Ytkhkdagdgbmdkaa
