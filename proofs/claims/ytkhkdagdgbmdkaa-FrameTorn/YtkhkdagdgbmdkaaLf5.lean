/-
  FrameTorn.
-/
import Derived.Test.YtkhkdagdgbmdkaaLf4
namespace Go.Proofs.Ytkhkdagdgbmdkaa
open Go.RowKit
set_option linter.unusedVariables false
set_option linter.unusedSimpArgs false

theorem layL_mem {l : List (List UInt8)} {at0 : Nat} {over : List (List UInt8)} {K : List Bool} (h1 : ∀ b ∈ l, b.length = 128) (h2 : ∀ b ∈ over, b.length = 128) : ∀ b ∈ layL l at0 over K, b.length = 128 := by
  intro b hb
  obtain ⟨j, hj, rfl⟩ := List.mem_iff_getElem.1 hb
  have hj' : j < l.length := by rw [layL_len] at hj; exact hj
  rw [layL_get l at0 over K j hj']
  split
  · rename_i h
    rw [List.getD, List.getElem?_eq_getElem h.2.1]
    exact h2 _ (List.getElem_mem _)
  · exact h1 _ (List.getElem_mem _)
theorem layL_chk {l : List (List UInt8)} {at0 : Nat} {over : List (List UInt8)} {K : List Bool} (h1 : chkL l = 0) (h2 : ∀ b ∈ over, b.length = 128) : chkL (layL l at0 over K) = 0 := by
  obtain ⟨a, b⟩ := chkL_ok h1
  exact chkL_of (by rw [layL_len]; exact a) (layL_mem b h2)
theorem rdE_ok {g : Nat} {l : List (List UInt8)} (h : rdE g l = 0) : g ≠ 0 ∧ chkL l = 0 := by
  unfold rdE at h
  split at h
  · cases h
  · exact ⟨by assumption, h⟩
theorem rdE_of {g : Nat} {l : List (List UInt8)} (h : g ≠ 0) (h2 : chkL l = 0) : rdE g l = 0 := by unfold rdE; rw [if_neg h, h2]
theorem rdG_ok {g : Nat} {l : List (List UInt8)} (h : rdE g l = 0) : rdG g l = ((logO g l).map (·.1), sumO (logO g l), endO 0 (logO g l), greatB g (l.drop (sumO (logO g l)))) := by
  unfold rdG; rw [if_neg (fun e => e h)]
theorem log_lt (g : Nat) (l : List (List UInt8)) : (logO g l).length ≤ sumO (logO g l) ∧ sumO (logO g l) ≤ l.length ∧ endO 0 (logO g l) < 4294967296 ∧ greatB g (l.drop (sumO (logO g l))) < 4294967296 :=
  ⟨(steps_sum g _ 1 0 l).2, (steps_sum g _ 1 0 l).1, steps_end g _ 1 0 l (by omega), great_lt g _ 0 (by omega)⟩

theorem torn_fr (N N1 k q kq rc2 : Nat) (h : N1 = 1 + N) (hkq : kq = k + q) (hN : N ≤ 4096) (hk : k ≤ 4096) (hq : q ≤ 4096) (hc : N1 ≤ rc2) :
    IntKind.i64.wrap ((N : Int) + 1) = (N1 : Int) ∧ wrap64 ((N : Int) + 1) = (N1 : Int) ∧ IntKind.u32.wrap (N1 : Int) = (N1 : Int) ∧ N1 < 4294967296 ∧ IntKind.i64.wrap ((k : Int) + (q : Int)) = (kq : Int) ∧ wrap64 ((k : Int) + (q : Int)) = (kq : Int) ∧ (N : Int) ≤ rc2 ∧ N ≤ rc2 ∧ ¬ rc2 = 0 ∧ (N : Int) < N1 ∧ N < N1 := by
  obtain ⟨a, b, c, d⟩ := num_fr N N1 h hN
  refine ⟨a, b, c, d, ?_, ?_, by omega, by omega, by omega, by omega, by omega⟩
  · rw [IntKind.wrap_i64]; omega
  · unfold wrap64; omega

set_option maxHeartbeats 8000000 in
set_option maxRecDepth 100000 in
theorem frameTorn_any (gn sl : Nat) (a : Option Addr) (n c : Nat) (l : List (List UInt8)) (a3 : Option Addr) (n3 c3 : Nat) (r : List UInt8) (a4 : Option Addr) (n4 c4 : Nat) (K : List Bool) (w : World) (hg : gn < 4294967296) (hsl : sl < 4294967296) (hrd : RdL w (.slice a n c) l) (hr3 : Rd w (.slice a3 n3 c3) r) (hn3 : n3 = r.length) (hrk : RdK w (.slice a4 n4 c4) K) :
    Calls Try.prog 4 #[.int .u32 gn, .slice a n c, .int .u32 sl, .slice a3 n3 c3, .slice a4 n4 c4] w fun e w' => e = .returned (.bool true) ∧ Below w.heap.size w w' := by
  have HR := hide hrd
  have HN := hide hrd.le.1
  have HR3 := hide hr3
  have HN3 := hide hn3
  have HRK := hide hrk
  have HG := hide (show gn < 4294967296 ∧ sl < 4294967296 from ⟨hg, hsl⟩)
  clear hrd hr3 hn3 hrk hg hsl
  go_enter Try.func4, Try.ntmps4
  go_wp2_with fail
  refine (alive8_any _).mono ?_
  rintro e w1 ⟨rfl, hb1⟩
  by_cases h2 : 2000 < n
  · have h2' : (2000 : Int) < n := by omega
    go_wp2
    go_ret
    exact ⟨rfl, hb1⟩
  have h2' : decide ((2000 : Int) < n) = false := by simpa using (by omega : ¬ (2000 : Int) < n)
  go_wp2_with fail
  refine (heavy8_any a n c l _ (HR.out.carry hb1)).mono ?_
  rintro e w2 ⟨⟨hv, rfl⟩, rfl⟩
  cases hv
  rotate_left
  · go_wp2
    go_ret
    exact ⟨rfl, hb1⟩
  by_cases h20 : 20000 < n3
  · have h20' : (20000 : Int) < n3 := by omega
    go_wp2
    go_ret
    exact ⟨rfl, hb1⟩
  have h20' : decide ((20000 : Int) < n3) = false := by simpa using (by omega : ¬ (20000 : Int) < n3)
  by_cases h10 : 1000 < n4
  · have h10' : (1000 : Int) < n4 := by omega
    go_wp2
    go_ret
    exact ⟨rfl, hb1⟩
  have h10' : decide ((1000 : Int) < n4) = false := by simpa using (by omega : ¬ (1000 : Int) < n4)
  have hn2 : n ≤ 2000 := by omega
  have hn20 : n3 ≤ 20000 := by omega
  clear h2 h20 h10
  go_wp2_with fail
  refine (read_fr gn a n c l _ HG.out.1 (HR.out.carry hb1)).mono ?_
  rintro e w3 ⟨rv, rfl, hO3, hb3⟩
  have hB3 : Below w.heap.size w w3 := hb1.trans (hb3.mono hb1.size)
  clear hb3 hb1 h2' h20' h10'
  by_cases he : rdE gn l = 0
  rotate_left
  · obtain ⟨E, hE⟩ : ∃ E, E = rdE gn l := ⟨_, rfl⟩
    rw [← hE] at he ⊢
    have hne : (E != 0) = true := by simpa using he
    have hB4 : ∀ o, Below w.heap.size w (w3.alloc o) := fun o => hB3.alloc hB3.size o
    obtain ⟨ra, rc, hf⟩ := hO3.form
    subst hf
    generalize (rdG gn l).2.1 = k1
    generalize (rdG gn l).2.2.1 = k2
    generalize (rdG gn l).2.2.2 = k3
    clear hE he hO3
    go_wp2
    go_ret
    exact ⟨rfl, hB4 _⟩
  have HE := hide he
  have HGL := hide (log_lt gn l)
  rw [he, rdG_ok he]
  rw [rdG_ok he] at hO3
  obtain ⟨S, hS⟩ : ∃ S, S = logO gn l := ⟨_, rfl⟩
  have HSE := hide hS
  rw [← hS] at hO3 HGL ⊢
  obtain ⟨ra, rc, hf⟩ := hO3.form
  rw [List.length_map] at hf
  obtain ⟨N, hN⟩ : ∃ N, N = S.length := ⟨_, rfl⟩
  obtain ⟨k, hk⟩ : ∃ k, k = sumO S := ⟨_, rfl⟩
  obtain ⟨p, hp⟩ : ∃ p, p = endO 0 S := ⟨_, rfl⟩
  obtain ⟨m, hm⟩ : ∃ m, m = greatB gn (l.drop (sumO S)) := ⟨_, rfl⟩
  obtain ⟨recs, hrecs⟩ : ∃ recs, recs = S.map (·.1) := ⟨_, rfl⟩
  rw [← hN] at hf
  rw [← hm, ← hk, ← hp]
  subst hf
  rw [← hrecs] at hO3
  have HV := hide (show N = S.length ∧ k = sumO S ∧ p = endO 0 S ∧ m = greatB gn (l.drop (sumO S)) ∧ recs = S.map (·.1) from ⟨hN, hk, hp, hm, hrecs⟩)
  have HO3 := hide hO3
  have hkn : k ≤ n := by rw [hk, HN.out]; exact HGL.out.2.1
  have hNk : N ≤ k := by rw [hN, hk]; exact HGL.out.1
  have HPL := hide (show p < 4294967296 by rw [hp]; exact HGL.out.2.2.1)
  have HRLn := hide (show recs.length = N by rw [hrecs, List.length_map, hN])
  clear he hS hN hk hp hm hrecs hO3
  -- the variable that holds the first log
  obtain ⟨B1, hB1e⟩ : ∃ B1, B1 = w3.heap.size := ⟨_, rfl⟩
  obtain ⟨wA, hwA⟩ : ∃ wA, wA = w3.alloc (.cells #[.slice ra N rc, .int .i64 k, .int .u32 p, .int .u32 m] 31) := ⟨_, rfl⟩
  have HLA := hide (show LogAt wA B1 (.slice ra N rc) k p m by rw [hwA, hB1e]; exact heap_alloc_new _ _)
  have hbA : Below w3.heap.size w3 wA := by rw [hwA]; exact (Below.refl _ _).alloc (Nat.le_refl _) _
  have hBA : Below w.heap.size w wA := hB3.trans (hbA.mono hB3.size)
  have HOA := hide (HO3.out.carry hbA)
  have HB1 := hide hB1e
  have HWA := hide hwA
  clear hwA hB1e
  by_cases hs1 : sl ≤ p
  · have hs1' : (sl : Int) ≤ p := by omega
    have hx : ∀ o, Below w.heap.size w (w3.alloc o) := fun o => hB3.alloc hB3.size o
    go_wp2
    go_ret
    exact ⟨rfl, hx _⟩
  have hs1' : decide ((sl : Int) ≤ p) = false := by simpa using (by omega : ¬ (sl : Int) ≤ p)
  have hs1n : decide (sl ≤ p) = false := by simpa using hs1
  by_cases hs2 : sl ≤ m
  · have hs2' : (sl : Int) ≤ m := by omega
    have hx : ∀ o, Below w.heap.size w (w3.alloc o) := fun o => hB3.alloc hB3.size o
    go_wp2
    go_ret
    exact ⟨rfl, hx _⟩
  have hs2' : decide ((sl : Int) ≤ m) = false := by simpa using (by omega : ¬ (sl : Int) ≤ m)
  have hs2n : decide (sl ≤ m) = false := by simpa using hs2
  have HS12 := hide (show p < sl ∧ m < sl from ⟨by omega, by omega⟩)
  obtain ⟨N1, hN1⟩ : ∃ N1, N1 = 1 + N := ⟨_, rfl⟩
  obtain ⟨ha1, ha2, ha3, ha4⟩ := num_fr N N1 hN1 (by omega)
  have HN1 := hide hN1
  clear hs1 hs2 hN1
  go_wp2_with fail
  rw [← HB1.out, ← HWA.out]
  clear hs1' hs2' hs1n hs2n
  refine (frame_any (gn, N1, sl, p) a3 n3 c3 r _ (okH_of HG.out.1 ha4 HG.out.2 HPL.out) HN3.out (HR3.out.carry hBA)).mono ?_
  rintro e w5 ⟨v5, rfl, hO5, hb5⟩
  have hB5 : Below w.heap.size w w5 := hBA.trans (hb5.mono hBA.size)
  have HL5 := hide (HLA.out.carry hb5 HLA.out.lt (Nat.le_refl _))
  have HO5a := hide (HOA.out.carry hb5)
  clear hb5 ha1 ha2 ha3
  by_cases hf : frmE (gn, N1, sl, p) r = 0
  rotate_left
  · obtain ⟨E, hE⟩ : ∃ E, E = frmE (gn, N1, sl, p) r := ⟨_, rfl⟩
    obtain ⟨a5, c5, hf5⟩ := hO5.form
    rw [← hE] at hf ⊢
    have hne : (E != 0) = true := by simpa using hf
    subst hf5
    clear hE hf hO5
    go_wp2
    go_ret
    exact ⟨rfl, hB5⟩
  have HF := hide hf
  rw [hf]
  rw [frmL_0 hf] at hO5
  obtain ⟨a5, c5, hf5⟩ := hO5.form
  obtain ⟨row, hrow⟩ : ∃ row, row = rowB (gn, N1, sl, p) r := ⟨_, rfl⟩
  rw [← hrow] at hO5 hf5
  have HROW := hide hrow
  have hq154 : row.length ≤ 154 := by rw [hrow]; exact rowB_small (frmE_ok hf).2.2
  obtain ⟨q, hq⟩ : ∃ q, q = row.length := ⟨_, rfl⟩
  rw [← hq] at hf5 hq154
  subst hf5
  have HQ := hide hq
  have HO5 := hide hO5
  have hsub : wrap64 ((n : Int) - k) = (n : Int) - k := by unfold wrap64; omega
  obtain ⟨cc0, cc1, cc2, cc3, -⟩ := HL5.out.cells
  clear hf hrow hq hO5
  by_cases hfit : n - k < q
  · have hfit' : (n : Int) - k < q := by omega
    go_wp2
    go_ret
    exact ⟨rfl, hB5⟩
  have hfit' : decide ((n : Int) - k < q) = false := by simpa using (by omega : ¬ (n : Int) - k < q)
  have hfit2 : ¬ (n : Int) - k < q := by omega
  have HFIT := hide (show q ≤ n - k by omega)
  clear hfit
  go_wp2_with fail
  refine (lay8_any a n c l k a5 q c5 row a4 n4 c4 K _ (HR.out.carry hB5) HO5.out.rdL (HRK.out.carry hB5) (by rw [← HN.out]; omega) (by omega) (by rw [← HQ.out]; omega)).mono ?_
  rintro e w6 ⟨v6, rfl, hO6, hb6⟩
  obtain ⟨a6, c6, hf6⟩ := hO6.form
  obtain ⟨n6, hn6⟩ : ∃ n6, n6 = (layL l k row K).length := ⟨_, rfl⟩
  rw [← hn6] at hf6
  subst hf6
  have hB6 : Below w.heap.size w w6 := hB5.trans (hb6.mono hB5.size)
  have HL6 := hide (HL5.out.carry hb6 HL5.out.lt (Nat.le_refl _))
  have HO6a := hide (HO5a.out.carry hb6)
  have HO6 := hide hO6
  have HO6b := hide (HO5.out.carry hb6)
  clear hb6 hO6 hn6 hfit' hfit2 hsub
  go_wp2_with fail
  refine (read_fr gn a6 n6 c6 (layL l k row K) _ HG.out.1 HO6.out).mono ?_
  rintro e w7 ⟨rv7, rfl, hO7, hb7⟩
  have hB7 : Below w.heap.size w w7 := hB6.trans (hb7.mono hB6.size)
  have HL7 := hide (HL6.out.carry hb7 HL6.out.lt (Nat.le_refl _))
  have HO7a := hide (HO6a.out.carry hb7)
  have HE7 := hide (rdE_of (rdE_ok HE.out).1 (layL_chk (at0 := k) (K := K) (rdE_ok HE.out).2 (show ∀ b ∈ row, b.length = 128 by rw [HROW.out]; exact row_all)))
  have HT := hide (show logO gn (layL l k row K) = if allK K q then S ++ [(r, sl, q)] else S by
    have e2 : N1 = (logO gn l).length + 1 := by rw [HN1.out, HV.out.1, HSE.out]; omega
    have := log_torn (g := gn) (l := l) (salt := sl) (r := r) (keep := K) HG.out.1 HG.out.2 (by rw [← HSE.out, ← HV.out.2.2.1]; exact HS12.out.1) (by rw [← HSE.out, ← HV.out.2.2.2.1]; exact HS12.out.2) (by rw [← e2, ← HSE.out, ← HV.out.2.2.1]; exact HF.out) (by rw [← e2, ← HSE.out, ← HV.out.2.2.1, ← HV.out.2.1, ← HROW.out, ← HQ.out, ← HN.out]; exact HFIT.out)
    rw [← e2, ← HSE.out, ← HV.out.2.2.1, ← HV.out.2.1, ← HROW.out, ← HQ.out] at this
    exact this)
  rw [HE7.out, rdG_ok HE7.out]
  rw [rdG_ok HE7.out] at hO7
  obtain ⟨m2, hm2⟩ : ∃ m2, m2 = greatB gn ((layL l k row K).drop (sumO (logO gn (layL l k row K)))) := ⟨_, rfl⟩
  rw [← hm2]
  clear hb7 hm2
  obtain ⟨B2, hB2e⟩ : ∃ B2, B2 = w7.heap.size := ⟨_, rfl⟩
  have HB2 := hide hB2e
  clear hB2e cc0 cc1 cc2 cc3
  cases hK : allK K q
  · rw [hK, if_neg (by simp)] at HT
    rw [HT.out, ← HV.out.2.1, ← HV.out.2.2.1]
    rw [HT.out, ← HV.out.2.2.2.2] at hO7
    obtain ⟨rb, rc2, hf7⟩ := hO7.form
    rw [HRLn.out] at hf7
    subst hf7
    obtain ⟨wB, hwB⟩ : ∃ wB, wB = w7.alloc (.cells #[.slice rb N rc2, .int .i64 k, .int .u32 p, .int .u32 m2] 31) := ⟨_, rfl⟩
    have hbB : Below w7.heap.size w7 wB := by rw [hwB]; exact (Below.refl _ _).alloc (Nat.le_refl _) _
    have HLB := hide (show LogAt wB B2 (.slice rb N rc2) k p m2 by rw [hwB, HB2.out]; exact heap_alloc_new _ _)
    have HLB1 := hide (HL7.out.carry hbB HL7.out.lt (Nat.le_refl _))
    have HRB := hide ((hO7.carry hbB).rdL)
    have HRA := hide ((HO7a.out.carry hbB).rdL)
    have hBB : Below w.heap.size w wB := hB7.trans (hbB.mono hB7.size)
    have HWB := hide hwB
    have HKK := hide hK
    clear hwB hO7 hbB hK
    go_wp2_with fail
    rw [← HB2.out, ← HWB.out]
    refine (all8_any a4 n4 c4 q K _ (HRK.out.carry hBB) (by omega)).mono ?_
    rintro e w8 ⟨rfl, rfl⟩
    rw [HKK.out]
    obtain ⟨cc0, cc1, cc2, cc3, -⟩ := HLB1.out.cells
    obtain ⟨dd0, dd1, dd2, dd3, -⟩ := HLB.out.cells
    go_wp2_with fail
    refine (same8_any _ _ _ _ _ _ _ _ _ HRA.out HRB.out).mono ?_
    rintro e w9 ⟨rfl, hb9⟩
    rw [decide_eq_true rfl]
    have hB9 : Below w.heap.size w w9 := hBB.trans (hb9.mono hBB.size)
    obtain ⟨cc0, cc1, cc2, cc3, -⟩ := (HLB1.out.carry hb9 HLB1.out.lt (Nat.le_refl _)).cells
    obtain ⟨dd0, dd1, dd2, dd3, -⟩ := (HLB.out.carry hb9 HLB.out.lt (Nat.le_refl _)).cells
    clear hb9
    go_wp2
    go_ret
    exact ⟨rfl, hB9⟩
  · rw [hK, if_pos rfl] at HT
    rw [HT.out, sumO_snoc, endO_snoc, ← HV.out.2.1]
    rw [HT.out, List.map_append, ← HV.out.2.2.2.2] at hO7
    have hO7 : OwBB w7 w6.heap.size rv7 (recs ++ [r]) := hO7
    obtain ⟨rb, rc2, hf7⟩ := hO7.form
    obtain ⟨g9, y9, z9, hrb, hcl9, how9⟩ := (by rw [hf7] at hO7; exact hO7 : OwBB w7 w6.heap.size (.slice rb (recs ++ [r]).length rc2) (recs ++ [r])).at N (by rw [List.length_append, HRLn.out, List.length_singleton]; omega)
    have h9 : (recs ++ [r])[N]'(by rw [List.length_append, HRLn.out, List.length_singleton]; omega) = r := by
      rw [List.getElem_append_right (by rw [HRLn.out]; exact Nat.le_refl _)]
      simp
    rw [h9] at hcl9 how9
    rw [List.length_append, HRLn.out, List.length_singleton, Nat.add_comm N 1, ← HN1.out] at hf7
    subst hrb
    subst hf7
    have hle7 := hO7.rdL.le
    obtain ⟨kq, hkq⟩ : ∃ kq, kq = k + q := ⟨_, rfl⟩
    have HNQ := hide (show N1 = N + 1 by rw [HN1.out]; omega)
    dsimp only
    rw [← hkq]
    have hRt := (hO7.rdL).take N (by rw [List.length_append, HRLn.out]; omega)
    rw [List.take_left' HRLn.out] at hRt
    obtain ⟨wB, hwB⟩ : ∃ wB, wB = w7.alloc (.cells #[.slice (some ⟨g9, 0, none⟩) N1 rc2, .int .i64 kq, .int .u32 sl, .int .u32 m2] 31) := ⟨_, rfl⟩
    have hbB : Below w7.heap.size w7 wB := by rw [hwB]; exact (Below.refl _ _).alloc (Nat.le_refl _) _
    have HLB := hide (show LogAt wB B2 (.slice (some ⟨g9, 0, none⟩) N1 rc2) kq sl m2 by rw [hwB, HB2.out]; exact heap_alloc_new _ _)
    have HLB1 := hide (HL7.out.carry hbB HL7.out.lt (Nat.le_refl _))
    have HC9 := hide (keeps_cell _ _ _ _ hcl9 hbB)
    have HW9 := hide (how9.rd.carry hbB)
    have HRB := hide (hRt.carry hbB)
    have HRA := hide ((HO7a.out.carry hbB).rdL)
    have hBB : Below w.heap.size w wB := hB7.trans (hbB.mono hB7.size)
    have HWB := hide hwB
    have HKK := hide hK
    have HN1C := hide hle7.2.1
    have HKQ := hide hkq
    clear hwB hO7 hbB hK hcl9 how9 hRt hle7 hkq h9
    go_wp2_with fail
    rw [← HB2.out, ← HWB.out]
    refine (all8_any a4 n4 c4 q K _ (HRK.out.carry hBB) (by omega)).mono ?_
    rintro e w8 ⟨rfl, rfl⟩
    rw [HKK.out]
    obtain ⟨cc0, cc1, cc2, cc3, -⟩ := HLB1.out.cells
    go_wp2
    clear cc0 cc1 cc2 cc3
    obtain ⟨ha1, ha2, ha3, ha4', hadd1, hadd2, hnc1, hnc2, hnc3, hnc4, hnc5⟩ := torn_fr N N1 k q kq rc2 HN1.out HKQ.out (by omega) (by omega) (by omega) HN1C.out
    have hK : Keeps (fun wx => LogAt wx B1 (.slice ra N rc) k p m ∧ LogAt wx B2 (.slice (some ⟨g9, 0, none⟩) N1 rc2) kq sl m2 ∧ wx.cell? ⟨g9, N, none⟩ = some (.slice y9 r.length z9) ∧ Rd wx (.slice y9 r.length z9) r ∧ Rd wx (.slice a3 n3 c3) r ∧ RdL wx (.slice (some ⟨g9, 0, none⟩) N rc2) recs ∧ RdL wx (.slice ra N rc) recs ∧ Below w.heap.size w wx) := (keeps_block _ _).and ((keeps_block _ _).and ((keeps_cell _ _).and ((keeps_rd _ _).and ((keeps_rd _ _).and (Keeps.and (fun _ _ h hb => h.carry hb) (Keeps.and (fun _ _ h hb => h.carry hb) (keeps_below w)))))))
    have hS0 : (fun wx => LogAt wx B1 (.slice ra N rc) k p m ∧ LogAt wx B2 (.slice (some ⟨g9, 0, none⟩) N1 rc2) kq sl m2 ∧ wx.cell? ⟨g9, N, none⟩ = some (.slice y9 r.length z9) ∧ Rd wx (.slice y9 r.length z9) r ∧ Rd wx (.slice a3 n3 c3) r ∧ RdL wx (.slice (some ⟨g9, 0, none⟩) N rc2) recs ∧ RdL wx (.slice ra N rc) recs ∧ Below w.heap.size w wx) w8 := ⟨HLB1.out, HLB.out, HC9.out, HW9.out, HR3.out.carry hBB, HRB.out, HRA.out, hBB⟩
    clear hBB
    refine reg_begin hK (by kernel_rfl) hS0 ?_
    clear hS0
    intro hS
    generalize w8.drew = wd at *
    refine reg_take (i := 0) (v := ?qtv0) rfl (by kernel_rfl) (by kernel_rfl) (by kernel_rfl) (by kernel_rfl) ?qty0 hS ?qtr0
    case qty0 => (rintro wx ⟨x1, x2, x3, x4, x5, x6, x7, x8⟩; obtain ⟨u0, u1, u2, u3, u4⟩ := x1.cells; obtain ⟨v0, v1, v2, v3, v4⟩ := x2.cells; have z1 := conv_rd (P := Try.prog) 25 5 9 Try.underlying25 Try.underlying5 Try.underlying9 x4; have z2 := conv_rd (P := Try.prog) 25 5 9 Try.underlying25 Try.underlying5 Try.underlying9 x5; go_simp; all_goals (with_reducible rfl))
    try simp only [Act.put, List.setIfInBounds_toArray, List.set_cons_zero, List.set_cons_succ]
    refine reg_take (i := 1) (v := ?qtv1) rfl (by kernel_rfl) (by kernel_rfl) (by kernel_rfl) (by kernel_rfl) ?qty1 hS ?qtr1
    case qty1 => (rintro wx ⟨x1, x2, x3, x4, x5, x6, x7, x8⟩; obtain ⟨u0, u1, u2, u3, u4⟩ := x1.cells; obtain ⟨v0, v1, v2, v3, v4⟩ := x2.cells; have z1 := conv_rd (P := Try.prog) 25 5 9 Try.underlying25 Try.underlying5 Try.underlying9 x4; have z2 := conv_rd (P := Try.prog) 25 5 9 Try.underlying25 Try.underlying5 Try.underlying9 x5; go_simp; all_goals (with_reducible rfl))
    try simp only [Act.put, List.setIfInBounds_toArray, List.set_cons_zero, List.set_cons_succ]
    refine reg_take (i := 2) (v := ?qtv2) rfl (by kernel_rfl) (by kernel_rfl) (by kernel_rfl) (by kernel_rfl) ?qty2 hS ?qtr2
    case qty2 => (rintro wx ⟨x1, x2, x3, x4, x5, x6, x7, x8⟩; obtain ⟨u0, u1, u2, u3, u4⟩ := x1.cells; obtain ⟨v0, v1, v2, v3, v4⟩ := x2.cells; have z1 := conv_rd (P := Try.prog) 25 5 9 Try.underlying25 Try.underlying5 Try.underlying9 x4; have z2 := conv_rd (P := Try.prog) 25 5 9 Try.underlying25 Try.underlying5 Try.underlying9 x5; go_simp; all_goals (with_reducible rfl))
    try simp only [Act.put, List.setIfInBounds_toArray, List.set_cons_zero, List.set_cons_succ]
    refine reg_take (i := 3) (v := ?qtv3) rfl (by kernel_rfl) (by kernel_rfl) (by kernel_rfl) (by kernel_rfl) ?qty3 hS ?qtr3
    case qty3 => (rintro wx ⟨x1, x2, x3, x4, x5, x6, x7, x8⟩; obtain ⟨u0, u1, u2, u3, u4⟩ := x1.cells; obtain ⟨v0, v1, v2, v3, v4⟩ := x2.cells; have z1 := conv_rd (P := Try.prog) 25 5 9 Try.underlying25 Try.underlying5 Try.underlying9 x4; have z2 := conv_rd (P := Try.prog) 25 5 9 Try.underlying25 Try.underlying5 Try.underlying9 x5; go_simp; all_goals (with_reducible rfl))
    try simp only [Act.put, List.setIfInBounds_toArray, List.set_cons_zero, List.set_cons_succ]
    refine reg_take (i := 4) (v := ?qtv4) rfl (by kernel_rfl) (by kernel_rfl) (by kernel_rfl) (by kernel_rfl) ?qty4 hS ?qtr4
    case qty4 => (rintro wx ⟨x1, x2, x3, x4, x5, x6, x7, x8⟩; obtain ⟨u0, u1, u2, u3, u4⟩ := x1.cells; obtain ⟨v0, v1, v2, v3, v4⟩ := x2.cells; have z1 := conv_rd (P := Try.prog) 25 5 9 Try.underlying25 Try.underlying5 Try.underlying9 x4; have z2 := conv_rd (P := Try.prog) 25 5 9 Try.underlying25 Try.underlying5 Try.underlying9 x5; go_simp; all_goals (with_reducible rfl))
    try simp only [Act.put, List.setIfInBounds_toArray, List.set_cons_zero, List.set_cons_succ]
    refine reg_take (i := 5) (v := ?qtv5) rfl (by kernel_rfl) (by kernel_rfl) (by kernel_rfl) (by kernel_rfl) ?qty5 hS ?qtr5
    case qty5 => (rintro wx ⟨x1, x2, x3, x4, x5, x6, x7, x8⟩; obtain ⟨u0, u1, u2, u3, u4⟩ := x1.cells; obtain ⟨v0, v1, v2, v3, v4⟩ := x2.cells; have z1 := conv_rd (P := Try.prog) 25 5 9 Try.underlying25 Try.underlying5 Try.underlying9 x4; have z2 := conv_rd (P := Try.prog) 25 5 9 Try.underlying25 Try.underlying5 Try.underlying9 x5; go_simp; all_goals (with_reducible rfl))
    try simp only [Act.put, List.setIfInBounds_toArray, List.set_cons_zero, List.set_cons_succ]
    refine reg_take (i := 6) (v := ?qtv6) rfl (by kernel_rfl) (by kernel_rfl) (by kernel_rfl) (by kernel_rfl) ?qty6 hS ?qtr6
    case qty6 => (rintro wx ⟨x1, x2, x3, x4, x5, x6, x7, x8⟩; obtain ⟨u0, u1, u2, u3, u4⟩ := x1.cells; obtain ⟨v0, v1, v2, v3, v4⟩ := x2.cells; have z1 := conv_rd (P := Try.prog) 25 5 9 Try.underlying25 Try.underlying5 Try.underlying9 x4; have z2 := conv_rd (P := Try.prog) 25 5 9 Try.underlying25 Try.underlying5 Try.underlying9 x5; go_simp; all_goals (with_reducible rfl))
    try simp only [Act.put, List.setIfInBounds_toArray, List.set_cons_zero, List.set_cons_succ]
    refine reg_take (i := 7) (v := ?qtv7) rfl (by kernel_rfl) (by kernel_rfl) (by kernel_rfl) (by kernel_rfl) ?qty7 hS ?qtr7
    case qty7 => (rintro wx ⟨x1, x2, x3, x4, x5, x6, x7, x8⟩; obtain ⟨u0, u1, u2, u3, u4⟩ := x1.cells; obtain ⟨v0, v1, v2, v3, v4⟩ := x2.cells; have z1 := conv_rd (P := Try.prog) 25 5 9 Try.underlying25 Try.underlying5 Try.underlying9 x4; have z2 := conv_rd (P := Try.prog) 25 5 9 Try.underlying25 Try.underlying5 Try.underlying9 x5; go_simp; all_goals (with_reducible rfl))
    try simp only [Act.put, List.setIfInBounds_toArray, List.set_cons_zero, List.set_cons_succ]
    refine reg_take (i := 8) (v := ?qtv8) rfl (by kernel_rfl) (by kernel_rfl) (by kernel_rfl) (by kernel_rfl) ?qty8 hS ?qtr8
    case qty8 => (rintro wx ⟨x1, x2, x3, x4, x5, x6, x7, x8⟩; obtain ⟨u0, u1, u2, u3, u4⟩ := x1.cells; obtain ⟨v0, v1, v2, v3, v4⟩ := x2.cells; have z1 := conv_rd (P := Try.prog) 25 5 9 Try.underlying25 Try.underlying5 Try.underlying9 x4; have z2 := conv_rd (P := Try.prog) 25 5 9 Try.underlying25 Try.underlying5 Try.underlying9 x5; go_simp; all_goals (with_reducible rfl))
    try simp only [Act.put, List.setIfInBounds_toArray, List.set_cons_zero, List.set_cons_succ]
    refine reg_take (i := 9) (v := ?qtv9) rfl (by kernel_rfl) (by kernel_rfl) (by kernel_rfl) (by kernel_rfl) ?qty9 hS ?qtr9
    case qty9 => (rintro wx ⟨x1, x2, x3, x4, x5, x6, x7, x8⟩; obtain ⟨u0, u1, u2, u3, u4⟩ := x1.cells; obtain ⟨v0, v1, v2, v3, v4⟩ := x2.cells; have z1 := conv_rd (P := Try.prog) 25 5 9 Try.underlying25 Try.underlying5 Try.underlying9 x4; have z2 := conv_rd (P := Try.prog) 25 5 9 Try.underlying25 Try.underlying5 Try.underlying9 x5; go_simp; all_goals (with_reducible rfl))
    try simp only [Act.put, List.setIfInBounds_toArray, List.set_cons_zero, List.set_cons_succ]
    refine reg_take (i := 10) (v := ?qtv10) rfl (by kernel_rfl) (by kernel_rfl) (by kernel_rfl) (by kernel_rfl) ?qty10 hS ?qtr10
    case qty10 => (rintro wx ⟨x1, x2, x3, x4, x5, x6, x7, x8⟩; obtain ⟨u0, u1, u2, u3, u4⟩ := x1.cells; obtain ⟨v0, v1, v2, v3, v4⟩ := x2.cells; have z1 := conv_rd (P := Try.prog) 25 5 9 Try.underlying25 Try.underlying5 Try.underlying9 x4; have z2 := conv_rd (P := Try.prog) 25 5 9 Try.underlying25 Try.underlying5 Try.underlying9 x5; go_simp; all_goals (with_reducible rfl))
    try simp only [Act.put, List.setIfInBounds_toArray, List.set_cons_zero, List.set_cons_succ]
    refine reg_take (i := 11) (v := ?qtv11) rfl (by kernel_rfl) (by kernel_rfl) (by kernel_rfl) (by kernel_rfl) ?qty11 hS ?qtr11
    case qty11 => (rintro wx ⟨x1, x2, x3, x4, x5, x6, x7, x8⟩; obtain ⟨u0, u1, u2, u3, u4⟩ := x1.cells; obtain ⟨v0, v1, v2, v3, v4⟩ := x2.cells; have z1 := conv_rd (P := Try.prog) 25 5 9 Try.underlying25 Try.underlying5 Try.underlying9 x4; have z2 := conv_rd (P := Try.prog) 25 5 9 Try.underlying25 Try.underlying5 Try.underlying9 x5; go_simp; all_goals (with_reducible rfl))
    try simp only [Act.put, List.setIfInBounds_toArray, List.set_cons_zero, List.set_cons_succ]
    refine reg_take (i := 12) (v := ?qtv12) rfl (by kernel_rfl) (by kernel_rfl) (by kernel_rfl) (by kernel_rfl) ?qty12 hS ?qtr12
    case qty12 => (rintro wx ⟨x1, x2, x3, x4, x5, x6, x7, x8⟩; obtain ⟨u0, u1, u2, u3, u4⟩ := x1.cells; obtain ⟨v0, v1, v2, v3, v4⟩ := x2.cells; have z1 := conv_rd (P := Try.prog) 25 5 9 Try.underlying25 Try.underlying5 Try.underlying9 x4; have z2 := conv_rd (P := Try.prog) 25 5 9 Try.underlying25 Try.underlying5 Try.underlying9 x5; go_simp; all_goals (with_reducible rfl))
    try simp only [Act.put, List.setIfInBounds_toArray, List.set_cons_zero, List.set_cons_succ]
    refine reg_take (i := 13) (v := ?qtv13) rfl (by kernel_rfl) (by kernel_rfl) (by kernel_rfl) (by kernel_rfl) ?qty13 hS ?qtr13
    case qty13 => (rintro wx ⟨x1, x2, x3, x4, x5, x6, x7, x8⟩; obtain ⟨u0, u1, u2, u3, u4⟩ := x1.cells; obtain ⟨v0, v1, v2, v3, v4⟩ := x2.cells; have z1 := conv_rd (P := Try.prog) 25 5 9 Try.underlying25 Try.underlying5 Try.underlying9 x4; have z2 := conv_rd (P := Try.prog) 25 5 9 Try.underlying25 Try.underlying5 Try.underlying9 x5; go_simp; all_goals (with_reducible rfl))
    try simp only [Act.put, List.setIfInBounds_toArray, List.set_cons_zero, List.set_cons_succ]
    refine reg_take (i := 14) (v := ?qtv14) rfl (by kernel_rfl) (by kernel_rfl) (by kernel_rfl) (by kernel_rfl) ?qty14 hS ?qtr14
    case qty14 => (rintro wx ⟨x1, x2, x3, x4, x5, x6, x7, x8⟩; obtain ⟨u0, u1, u2, u3, u4⟩ := x1.cells; obtain ⟨v0, v1, v2, v3, v4⟩ := x2.cells; have z1 := conv_rd (P := Try.prog) 25 5 9 Try.underlying25 Try.underlying5 Try.underlying9 x4; have z2 := conv_rd (P := Try.prog) 25 5 9 Try.underlying25 Try.underlying5 Try.underlying9 x5; go_simp; all_goals (with_reducible rfl))
    try simp only [Act.put, List.setIfInBounds_toArray, List.set_cons_zero, List.set_cons_succ]
    refine reg_take (i := 15) (v := ?qtv15) rfl (by kernel_rfl) (by kernel_rfl) (by kernel_rfl) (by kernel_rfl) ?qty15 hS ?qtr15
    case qty15 => (rintro wx ⟨x1, x2, x3, x4, x5, x6, x7, x8⟩; obtain ⟨u0, u1, u2, u3, u4⟩ := x1.cells; obtain ⟨v0, v1, v2, v3, v4⟩ := x2.cells; have z1 := conv_rd (P := Try.prog) 25 5 9 Try.underlying25 Try.underlying5 Try.underlying9 x4; have z2 := conv_rd (P := Try.prog) 25 5 9 Try.underlying25 Try.underlying5 Try.underlying9 x5; go_simp; all_goals (with_reducible rfl))
    try simp only [Act.put, List.setIfInBounds_toArray, List.set_cons_zero, List.set_cons_succ]
    refine reg_callv hK (i := 16) (v := .bool true) rfl (by kernel_rfl) (by rfl) (by go_simp) hS ((same8_any _ _ _ _ _ _ _ _ _ hS.2.2.2.2.2.1 hS.2.2.2.2.2.2.1).mono fun e w1 ⟨h1, h2⟩ => ⟨by rw [h1, decide_eq_true rfl], h2⟩) ?_
    clear hS
    intro w147 hS
    try simp only [Act.put, List.setIfInBounds_toArray, List.set_cons_zero, List.set_cons_succ]
    refine reg_take (i := 17) (v := ?qtv17) rfl (by kernel_rfl) (by kernel_rfl) (by kernel_rfl) (by kernel_rfl) ?qty17 hS ?qtr17
    case qty17 => (rintro wx ⟨x1, x2, x3, x4, x5, x6, x7, x8⟩; obtain ⟨u0, u1, u2, u3, u4⟩ := x1.cells; obtain ⟨v0, v1, v2, v3, v4⟩ := x2.cells; have z1 := conv_rd (P := Try.prog) 25 5 9 Try.underlying25 Try.underlying5 Try.underlying9 x4; have z2 := conv_rd (P := Try.prog) 25 5 9 Try.underlying25 Try.underlying5 Try.underlying9 x5; go_simp; all_goals (with_reducible rfl))
    try simp only [Act.put, List.setIfInBounds_toArray, List.set_cons_zero, List.set_cons_succ]
    refine reg_take (i := 18) (v := ?qtv18) rfl (by kernel_rfl) (by kernel_rfl) (by kernel_rfl) (by kernel_rfl) ?qty18 hS ?qtr18
    case qty18 => (rintro wx ⟨x1, x2, x3, x4, x5, x6, x7, x8⟩; obtain ⟨u0, u1, u2, u3, u4⟩ := x1.cells; obtain ⟨v0, v1, v2, v3, v4⟩ := x2.cells; have z1 := conv_rd (P := Try.prog) 25 5 9 Try.underlying25 Try.underlying5 Try.underlying9 x4; have z2 := conv_rd (P := Try.prog) 25 5 9 Try.underlying25 Try.underlying5 Try.underlying9 x5; go_simp; all_goals (with_reducible rfl))
    try simp only [Act.put, List.setIfInBounds_toArray, List.set_cons_zero, List.set_cons_succ]
    refine reg_take (i := 19) (v := ?qtv19) rfl (by kernel_rfl) (by kernel_rfl) (by kernel_rfl) (by kernel_rfl) ?qty19 hS ?qtr19
    case qty19 => (rintro wx ⟨x1, x2, x3, x4, x5, x6, x7, x8⟩; obtain ⟨u0, u1, u2, u3, u4⟩ := x1.cells; obtain ⟨v0, v1, v2, v3, v4⟩ := x2.cells; have z1 := conv_rd (P := Try.prog) 25 5 9 Try.underlying25 Try.underlying5 Try.underlying9 x4; have z2 := conv_rd (P := Try.prog) 25 5 9 Try.underlying25 Try.underlying5 Try.underlying9 x5; go_simp; all_goals (with_reducible rfl))
    try simp only [Act.put, List.setIfInBounds_toArray, List.set_cons_zero, List.set_cons_succ]
    refine reg_take (i := 20) (v := ?qtv20) rfl (by kernel_rfl) (by kernel_rfl) (by kernel_rfl) (by kernel_rfl) ?qty20 hS ?qtr20
    case qty20 => (rintro wx ⟨x1, x2, x3, x4, x5, x6, x7, x8⟩; obtain ⟨u0, u1, u2, u3, u4⟩ := x1.cells; obtain ⟨v0, v1, v2, v3, v4⟩ := x2.cells; have z1 := conv_rd (P := Try.prog) 25 5 9 Try.underlying25 Try.underlying5 Try.underlying9 x4; have z2 := conv_rd (P := Try.prog) 25 5 9 Try.underlying25 Try.underlying5 Try.underlying9 x5; go_simp; all_goals (with_reducible rfl))
    try simp only [Act.put, List.setIfInBounds_toArray, List.set_cons_zero, List.set_cons_succ]
    refine reg_take (i := 21) (v := ?qtv21) rfl (by kernel_rfl) (by kernel_rfl) (by kernel_rfl) (by kernel_rfl) ?qty21 hS ?qtr21
    case qty21 => (rintro wx ⟨x1, x2, x3, x4, x5, x6, x7, x8⟩; obtain ⟨u0, u1, u2, u3, u4⟩ := x1.cells; obtain ⟨v0, v1, v2, v3, v4⟩ := x2.cells; have z1 := conv_rd (P := Try.prog) 25 5 9 Try.underlying25 Try.underlying5 Try.underlying9 x4; have z2 := conv_rd (P := Try.prog) 25 5 9 Try.underlying25 Try.underlying5 Try.underlying9 x5; go_simp; all_goals (with_reducible rfl))
    try simp only [Act.put, List.setIfInBounds_toArray, List.set_cons_zero, List.set_cons_succ]
    refine reg_take (i := 22) (v := ?qtv22) rfl (by kernel_rfl) (by kernel_rfl) (by kernel_rfl) (by kernel_rfl) ?qty22 hS ?qtr22
    case qty22 => (rintro wx ⟨x1, x2, x3, x4, x5, x6, x7, x8⟩; obtain ⟨u0, u1, u2, u3, u4⟩ := x1.cells; obtain ⟨v0, v1, v2, v3, v4⟩ := x2.cells; have z1 := conv_rd (P := Try.prog) 25 5 9 Try.underlying25 Try.underlying5 Try.underlying9 x4; have z2 := conv_rd (P := Try.prog) 25 5 9 Try.underlying25 Try.underlying5 Try.underlying9 x5; go_simp; all_goals (with_reducible rfl))
    try simp only [Act.put, List.setIfInBounds_toArray, List.set_cons_zero, List.set_cons_succ]
    refine reg_take (i := 23) (v := ?qtv23) rfl (by kernel_rfl) (by kernel_rfl) (by kernel_rfl) (by kernel_rfl) ?qty23 hS ?qtr23
    case qty23 => (rintro wx ⟨x1, x2, x3, x4, x5, x6, x7, x8⟩; obtain ⟨u0, u1, u2, u3, u4⟩ := x1.cells; obtain ⟨v0, v1, v2, v3, v4⟩ := x2.cells; have z1 := conv_rd (P := Try.prog) 25 5 9 Try.underlying25 Try.underlying5 Try.underlying9 x4; have z2 := conv_rd (P := Try.prog) 25 5 9 Try.underlying25 Try.underlying5 Try.underlying9 x5; go_simp; all_goals (with_reducible rfl))
    try simp only [Act.put, List.setIfInBounds_toArray, List.set_cons_zero, List.set_cons_succ]
    refine reg_take (i := 24) (v := ?qtv24) rfl (by kernel_rfl) (by kernel_rfl) (by kernel_rfl) (by kernel_rfl) ?qty24 hS ?qtr24
    case qty24 => (rintro wx ⟨x1, x2, x3, x4, x5, x6, x7, x8⟩; obtain ⟨u0, u1, u2, u3, u4⟩ := x1.cells; obtain ⟨v0, v1, v2, v3, v4⟩ := x2.cells; have z1 := conv_rd (P := Try.prog) 25 5 9 Try.underlying25 Try.underlying5 Try.underlying9 x4; have z2 := conv_rd (P := Try.prog) 25 5 9 Try.underlying25 Try.underlying5 Try.underlying9 x5; go_simp; all_goals (with_reducible rfl))
    try simp only [Act.put, List.setIfInBounds_toArray, List.set_cons_zero, List.set_cons_succ]
    refine reg_take (i := 25) (v := ?qtv25) rfl (by kernel_rfl) (by kernel_rfl) (by kernel_rfl) (by kernel_rfl) ?qty25 hS ?qtr25
    case qty25 => (rintro wx ⟨x1, x2, x3, x4, x5, x6, x7, x8⟩; obtain ⟨u0, u1, u2, u3, u4⟩ := x1.cells; obtain ⟨v0, v1, v2, v3, v4⟩ := x2.cells; have z1 := conv_rd (P := Try.prog) 25 5 9 Try.underlying25 Try.underlying5 Try.underlying9 x4; have z2 := conv_rd (P := Try.prog) 25 5 9 Try.underlying25 Try.underlying5 Try.underlying9 x5; go_simp; all_goals (with_reducible rfl))
    try simp only [Act.put, List.setIfInBounds_toArray, List.set_cons_zero, List.set_cons_succ]
    refine reg_take (i := 26) (v := ?qtv26) rfl (by kernel_rfl) (by kernel_rfl) (by kernel_rfl) (by kernel_rfl) ?qty26 hS ?qtr26
    case qty26 => (rintro wx ⟨x1, x2, x3, x4, x5, x6, x7, x8⟩; obtain ⟨u0, u1, u2, u3, u4⟩ := x1.cells; obtain ⟨v0, v1, v2, v3, v4⟩ := x2.cells; have z1 := conv_rd (P := Try.prog) 25 5 9 Try.underlying25 Try.underlying5 Try.underlying9 x4; have z2 := conv_rd (P := Try.prog) 25 5 9 Try.underlying25 Try.underlying5 Try.underlying9 x5; go_simp; all_goals (with_reducible rfl))
    try simp only [Act.put, List.setIfInBounds_toArray, List.set_cons_zero, List.set_cons_succ]
    refine reg_take (i := 27) (v := ?qtv27) rfl (by kernel_rfl) (by kernel_rfl) (by kernel_rfl) (by kernel_rfl) ?qty27 hS ?qtr27
    case qty27 => (rintro wx ⟨x1, x2, x3, x4, x5, x6, x7, x8⟩; obtain ⟨u0, u1, u2, u3, u4⟩ := x1.cells; obtain ⟨v0, v1, v2, v3, v4⟩ := x2.cells; have z1 := conv_rd (P := Try.prog) 25 5 9 Try.underlying25 Try.underlying5 Try.underlying9 x4; have z2 := conv_rd (P := Try.prog) 25 5 9 Try.underlying25 Try.underlying5 Try.underlying9 x5; go_simp; all_goals (with_reducible rfl))
    try simp only [Act.put, List.setIfInBounds_toArray, List.set_cons_zero, List.set_cons_succ]
    refine reg_take (i := 28) (v := ?qtv28) rfl (by kernel_rfl) (by kernel_rfl) (by kernel_rfl) (by kernel_rfl) ?qty28 hS ?qtr28
    case qty28 => (rintro wx ⟨x1, x2, x3, x4, x5, x6, x7, x8⟩; obtain ⟨u0, u1, u2, u3, u4⟩ := x1.cells; obtain ⟨v0, v1, v2, v3, v4⟩ := x2.cells; have z1 := conv_rd (P := Try.prog) 25 5 9 Try.underlying25 Try.underlying5 Try.underlying9 x4; have z2 := conv_rd (P := Try.prog) 25 5 9 Try.underlying25 Try.underlying5 Try.underlying9 x5; go_simp; all_goals (with_reducible rfl))
    try simp only [Act.put, List.setIfInBounds_toArray, List.set_cons_zero, List.set_cons_succ]
    refine reg_take (i := 29) (v := ?qtv29) rfl (by kernel_rfl) (by kernel_rfl) (by kernel_rfl) (by kernel_rfl) ?qty29 hS ?qtr29
    case qty29 => (rintro wx ⟨x1, x2, x3, x4, x5, x6, x7, x8⟩; obtain ⟨u0, u1, u2, u3, u4⟩ := x1.cells; obtain ⟨v0, v1, v2, v3, v4⟩ := x2.cells; have z1 := conv_rd (P := Try.prog) 25 5 9 Try.underlying25 Try.underlying5 Try.underlying9 x4; have z2 := conv_rd (P := Try.prog) 25 5 9 Try.underlying25 Try.underlying5 Try.underlying9 x5; go_simp; all_goals (with_reducible rfl))
    try simp only [Act.put, List.setIfInBounds_toArray, List.set_cons_zero, List.set_cons_succ]
    refine reg_take (i := 30) (v := ?qtv30) rfl (by kernel_rfl) (by kernel_rfl) (by kernel_rfl) (by kernel_rfl) ?qty30 hS ?qtr30
    case qty30 => (rintro wx ⟨x1, x2, x3, x4, x5, x6, x7, x8⟩; obtain ⟨u0, u1, u2, u3, u4⟩ := x1.cells; obtain ⟨v0, v1, v2, v3, v4⟩ := x2.cells; have z1 := conv_rd (P := Try.prog) 25 5 9 Try.underlying25 Try.underlying5 Try.underlying9 x4; have z2 := conv_rd (P := Try.prog) 25 5 9 Try.underlying25 Try.underlying5 Try.underlying9 x5; go_simp; all_goals (with_reducible rfl))
    try simp only [Act.put, List.setIfInBounds_toArray, List.set_cons_zero, List.set_cons_succ]
    refine reg_take (i := 31) (v := ?qtv31) rfl (by kernel_rfl) (by kernel_rfl) (by kernel_rfl) (by kernel_rfl) ?qty31 hS ?qtr31
    case qty31 => (rintro wx ⟨x1, x2, x3, x4, x5, x6, x7, x8⟩; obtain ⟨u0, u1, u2, u3, u4⟩ := x1.cells; obtain ⟨v0, v1, v2, v3, v4⟩ := x2.cells; have z1 := conv_rd (P := Try.prog) 25 5 9 Try.underlying25 Try.underlying5 Try.underlying9 x4; have z2 := conv_rd (P := Try.prog) 25 5 9 Try.underlying25 Try.underlying5 Try.underlying9 x5; go_simp; all_goals (with_reducible rfl))
    try simp only [Act.put, List.setIfInBounds_toArray, List.set_cons_zero, List.set_cons_succ]
    refine reg_take (i := 32) (v := ?qtv32) rfl (by kernel_rfl) (by kernel_rfl) (by kernel_rfl) (by kernel_rfl) ?qty32 hS ?qtr32
    case qty32 => (rintro wx ⟨x1, x2, x3, x4, x5, x6, x7, x8⟩; obtain ⟨u0, u1, u2, u3, u4⟩ := x1.cells; obtain ⟨v0, v1, v2, v3, v4⟩ := x2.cells; have z1 := conv_rd (P := Try.prog) 25 5 9 Try.underlying25 Try.underlying5 Try.underlying9 x4; have z2 := conv_rd (P := Try.prog) 25 5 9 Try.underlying25 Try.underlying5 Try.underlying9 x5; go_simp; all_goals (with_reducible rfl))
    try simp only [Act.put, List.setIfInBounds_toArray, List.set_cons_zero, List.set_cons_succ]
    refine reg_take (i := 33) (v := ?qtv33) rfl (by kernel_rfl) (by kernel_rfl) (by kernel_rfl) (by kernel_rfl) ?qty33 hS ?qtr33
    case qty33 => (rintro wx ⟨x1, x2, x3, x4, x5, x6, x7, x8⟩; obtain ⟨u0, u1, u2, u3, u4⟩ := x1.cells; obtain ⟨v0, v1, v2, v3, v4⟩ := x2.cells; have z1 := conv_rd (P := Try.prog) 25 5 9 Try.underlying25 Try.underlying5 Try.underlying9 x4; have z2 := conv_rd (P := Try.prog) 25 5 9 Try.underlying25 Try.underlying5 Try.underlying9 x5; go_simp; all_goals (with_reducible rfl))
    try simp only [Act.put, List.setIfInBounds_toArray, List.set_cons_zero, List.set_cons_succ]
    refine reg_take (i := 34) (v := ?qtv34) rfl (by kernel_rfl) (by kernel_rfl) (by kernel_rfl) (by kernel_rfl) ?qty34 hS ?qtr34
    case qty34 => (rintro wx ⟨x1, x2, x3, x4, x5, x6, x7, x8⟩; obtain ⟨u0, u1, u2, u3, u4⟩ := x1.cells; obtain ⟨v0, v1, v2, v3, v4⟩ := x2.cells; have z1 := conv_rd (P := Try.prog) 25 5 9 Try.underlying25 Try.underlying5 Try.underlying9 x4; have z2 := conv_rd (P := Try.prog) 25 5 9 Try.underlying25 Try.underlying5 Try.underlying9 x5; go_simp; all_goals (with_reducible rfl))
    try simp only [Act.put, List.setIfInBounds_toArray, List.set_cons_zero, List.set_cons_succ]
    refine reg_take (i := 35) (v := ?qtv35) rfl (by kernel_rfl) (by kernel_rfl) (by kernel_rfl) (by kernel_rfl) ?qty35 hS ?qtr35
    case qty35 => (rintro wx ⟨x1, x2, x3, x4, x5, x6, x7, x8⟩; obtain ⟨u0, u1, u2, u3, u4⟩ := x1.cells; obtain ⟨v0, v1, v2, v3, v4⟩ := x2.cells; have z1 := conv_rd (P := Try.prog) 25 5 9 Try.underlying25 Try.underlying5 Try.underlying9 x4; have z2 := conv_rd (P := Try.prog) 25 5 9 Try.underlying25 Try.underlying5 Try.underlying9 x5; go_simp; all_goals (with_reducible rfl))
    try simp only [Act.put, List.setIfInBounds_toArray, List.set_cons_zero, List.set_cons_succ]
    refine reg_take (i := 36) (v := ?qtv36) rfl (by kernel_rfl) (by kernel_rfl) (by kernel_rfl) (by kernel_rfl) ?qty36 hS ?qtr36
    case qty36 => (rintro wx ⟨x1, x2, x3, x4, x5, x6, x7, x8⟩; obtain ⟨u0, u1, u2, u3, u4⟩ := x1.cells; obtain ⟨v0, v1, v2, v3, v4⟩ := x2.cells; have z1 := conv_rd (P := Try.prog) 25 5 9 Try.underlying25 Try.underlying5 Try.underlying9 x4; have z2 := conv_rd (P := Try.prog) 25 5 9 Try.underlying25 Try.underlying5 Try.underlying9 x5; go_simp; all_goals (with_reducible rfl))
    try simp only [Act.put, List.setIfInBounds_toArray, List.set_cons_zero, List.set_cons_succ]
    refine reg_take (i := 37) (v := ?qtv37) rfl (by kernel_rfl) (by kernel_rfl) (by kernel_rfl) (by kernel_rfl) ?qty37 hS ?qtr37
    case qty37 => (rintro wx ⟨x1, x2, x3, x4, x5, x6, x7, x8⟩; obtain ⟨u0, u1, u2, u3, u4⟩ := x1.cells; obtain ⟨v0, v1, v2, v3, v4⟩ := x2.cells; have z1 := conv_rd (P := Try.prog) 25 5 9 Try.underlying25 Try.underlying5 Try.underlying9 x4; have z2 := conv_rd (P := Try.prog) 25 5 9 Try.underlying25 Try.underlying5 Try.underlying9 x5; go_simp; all_goals (with_reducible rfl))
    try simp only [Act.put, List.setIfInBounds_toArray, List.set_cons_zero, List.set_cons_succ]
    refine reg_take (i := 38) (v := ?qtv38) rfl (by kernel_rfl) (by kernel_rfl) (by kernel_rfl) (by kernel_rfl) ?qty38 hS ?qtr38
    case qty38 => (rintro wx ⟨x1, x2, x3, x4, x5, x6, x7, x8⟩; obtain ⟨u0, u1, u2, u3, u4⟩ := x1.cells; obtain ⟨v0, v1, v2, v3, v4⟩ := x2.cells; have z1 := conv_rd (P := Try.prog) 25 5 9 Try.underlying25 Try.underlying5 Try.underlying9 x4; have z2 := conv_rd (P := Try.prog) 25 5 9 Try.underlying25 Try.underlying5 Try.underlying9 x5; go_simp; all_goals (with_reducible rfl))
    try simp only [Act.put, List.setIfInBounds_toArray, List.set_cons_zero, List.set_cons_succ]
    refine reg_take (i := 39) (v := ?qtv39) rfl (by kernel_rfl) (by kernel_rfl) (by kernel_rfl) (by kernel_rfl) ?qty39 hS ?qtr39
    case qty39 => (rintro wx ⟨x1, x2, x3, x4, x5, x6, x7, x8⟩; obtain ⟨u0, u1, u2, u3, u4⟩ := x1.cells; obtain ⟨v0, v1, v2, v3, v4⟩ := x2.cells; have z1 := conv_rd (P := Try.prog) 25 5 9 Try.underlying25 Try.underlying5 Try.underlying9 x4; have z2 := conv_rd (P := Try.prog) 25 5 9 Try.underlying25 Try.underlying5 Try.underlying9 x5; go_simp; all_goals (with_reducible rfl))
    try simp only [Act.put, List.setIfInBounds_toArray, List.set_cons_zero, List.set_cons_succ]
    refine reg_take (i := 40) (v := ?qtv40) rfl (by kernel_rfl) (by kernel_rfl) (by kernel_rfl) (by kernel_rfl) ?qty40 hS ?qtr40
    case qty40 => (rintro wx ⟨x1, x2, x3, x4, x5, x6, x7, x8⟩; obtain ⟨u0, u1, u2, u3, u4⟩ := x1.cells; obtain ⟨v0, v1, v2, v3, v4⟩ := x2.cells; have z1 := conv_rd (P := Try.prog) 25 5 9 Try.underlying25 Try.underlying5 Try.underlying9 x4; have z2 := conv_rd (P := Try.prog) 25 5 9 Try.underlying25 Try.underlying5 Try.underlying9 x5; go_simp; all_goals (with_reducible rfl))
    try simp only [Act.put, List.setIfInBounds_toArray, List.set_cons_zero, List.set_cons_succ]
    refine reg_take (i := 41) (v := ?qtv41) rfl (by kernel_rfl) (by kernel_rfl) (by kernel_rfl) (by kernel_rfl) ?qty41 hS ?qtr41
    case qty41 => (rintro wx ⟨x1, x2, x3, x4, x5, x6, x7, x8⟩; obtain ⟨u0, u1, u2, u3, u4⟩ := x1.cells; obtain ⟨v0, v1, v2, v3, v4⟩ := x2.cells; have z1 := conv_rd (P := Try.prog) 25 5 9 Try.underlying25 Try.underlying5 Try.underlying9 x4; have z2 := conv_rd (P := Try.prog) 25 5 9 Try.underlying25 Try.underlying5 Try.underlying9 x5; go_simp; all_goals (with_reducible rfl))
    try simp only [Act.put, List.setIfInBounds_toArray, List.set_cons_zero, List.set_cons_succ]
    refine reg_take (i := 42) (v := ?qtv42) rfl (by kernel_rfl) (by kernel_rfl) (by kernel_rfl) (by kernel_rfl) ?qty42 hS ?qtr42
    case qty42 => (rintro wx ⟨x1, x2, x3, x4, x5, x6, x7, x8⟩; obtain ⟨u0, u1, u2, u3, u4⟩ := x1.cells; obtain ⟨v0, v1, v2, v3, v4⟩ := x2.cells; have z1 := conv_rd (P := Try.prog) 25 5 9 Try.underlying25 Try.underlying5 Try.underlying9 x4; have z2 := conv_rd (P := Try.prog) 25 5 9 Try.underlying25 Try.underlying5 Try.underlying9 x5; go_simp; all_goals (with_reducible rfl))
    try simp only [Act.put, List.setIfInBounds_toArray, List.set_cons_zero, List.set_cons_succ]
    refine reg_take (i := 43) (v := ?qtv43) rfl (by kernel_rfl) (by kernel_rfl) (by kernel_rfl) (by kernel_rfl) ?qty43 hS ?qtr43
    case qty43 => (rintro wx ⟨x1, x2, x3, x4, x5, x6, x7, x8⟩; obtain ⟨u0, u1, u2, u3, u4⟩ := x1.cells; obtain ⟨v0, v1, v2, v3, v4⟩ := x2.cells; have z1 := conv_rd (P := Try.prog) 25 5 9 Try.underlying25 Try.underlying5 Try.underlying9 x4; have z2 := conv_rd (P := Try.prog) 25 5 9 Try.underlying25 Try.underlying5 Try.underlying9 x5; go_simp; all_goals (with_reducible rfl))
    try simp only [Act.put, List.setIfInBounds_toArray, List.set_cons_zero, List.set_cons_succ]
    refine reg_take (i := 44) (v := ?qtv44) rfl (by kernel_rfl) (by kernel_rfl) (by kernel_rfl) (by kernel_rfl) ?qty44 hS ?qtr44
    case qty44 => (rintro wx ⟨x1, x2, x3, x4, x5, x6, x7, x8⟩; obtain ⟨u0, u1, u2, u3, u4⟩ := x1.cells; obtain ⟨v0, v1, v2, v3, v4⟩ := x2.cells; have z1 := conv_rd (P := Try.prog) 25 5 9 Try.underlying25 Try.underlying5 Try.underlying9 x4; have z2 := conv_rd (P := Try.prog) 25 5 9 Try.underlying25 Try.underlying5 Try.underlying9 x5; go_simp; all_goals (with_reducible rfl))
    try simp only [Act.put, List.setIfInBounds_toArray, List.set_cons_zero, List.set_cons_succ]
    refine reg_take (i := 45) (v := ?qtv45) rfl (by kernel_rfl) (by kernel_rfl) (by kernel_rfl) (by kernel_rfl) ?qty45 hS ?qtr45
    case qty45 => (rintro wx ⟨x1, x2, x3, x4, x5, x6, x7, x8⟩; obtain ⟨u0, u1, u2, u3, u4⟩ := x1.cells; obtain ⟨v0, v1, v2, v3, v4⟩ := x2.cells; have z1 := conv_rd (P := Try.prog) 25 5 9 Try.underlying25 Try.underlying5 Try.underlying9 x4; have z2 := conv_rd (P := Try.prog) 25 5 9 Try.underlying25 Try.underlying5 Try.underlying9 x5; go_simp; all_goals (with_reducible rfl))
    try simp only [Act.put, List.setIfInBounds_toArray, List.set_cons_zero, List.set_cons_succ]
    refine wpAnyH_done (by kernel_rfl) ?_ _
    refine NoPanic.normal ?_
    obtain ⟨-, -, -, -, -, -, -, hBZ⟩ := hS
    clear hK
    go_wp2
    go_ret
    exact ⟨rfl, hBZ⟩

end Go.Proofs.Ytkhkdagdgbmdkaa
