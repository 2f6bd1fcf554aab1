/-
  FrameAgain.
-/
import Derived.Test.YtkhkdagdgbmdkaaLf5
import Derived.Test.YtkhkdagdgbmdkaaMathFr3
namespace Go.Proofs.Ytkhkdagdgbmdkaa
open Go.RowKit
set_option linter.unusedVariables false
set_option linter.unusedSimpArgs false

theorem num2_fr (N N2 : Nat) (h : N2 = 2 + N) (hN : N ≤ 4096) : IntKind.i64.wrap ((N : Int) + 2) = (N2 : Int) ∧ wrap64 ((N : Int) + 2) = (N2 : Int) ∧ IntKind.u32.wrap (N2 : Int) = (N2 : Int) ∧ N2 < 4294967296 := by
  refine ⟨?_, ?_, ?_, by omega⟩
  · rw [IntKind.wrap_i64]; omega
  · unfold wrap64; omega
  · rw [IntKind.wrap_u32']; omega
theorem salt_fr (s s1 s2 : Nat) (h1 : s1 = s + 1) (h2 : s2 = s + 2) (h : s ≤ 4294967293) : IntKind.u32.wrap ((s : Int) + 1) = (s1 : Int) ∧ ((s : Int) + 1) % 4294967296 = (s1 : Int) ∧ IntKind.u32.wrap ((s : Int) + 2) = (s2 : Int) ∧ ((s : Int) + 2) % 4294967296 = (s2 : Int) ∧ s1 < 4294967296 ∧ s2 < 4294967296 := by
  refine ⟨?_, by omega, ?_, by omega, by omega, by omega⟩
  · rw [IntKind.wrap_u32']; omega
  · rw [IntKind.wrap_u32']; omega
theorem max_fr {p m s : Nat} (h : s = max p m) : p ≤ s ∧ m ≤ s := by omega
theorem sub_fr (n k : Nat) (h : n ≤ 4096) (hk : k ≤ n) : wrap64 ((n : Int) - k) = (n : Int) - k := by unfold wrap64; omega
theorem again_fr (N M rc2 x : Nat) (h : M = N + x) (hc : M ≤ rc2) : ¬ (M : Int) < N ∧ decide (M < N) = false ∧ (N : Int) ≤ rc2 ∧ N ≤ rc2 := by
  refine ⟨by omega, by simpa using (by omega : ¬ M < N), by omega, by omega⟩
theorem cmp_fr (N N1 N2 : Nat) (h1 : N1 = 1 + N) (h2 : N2 = 2 + N) : ((N1 : Int) == N) = false ∧ ((N2 : Int) == N) = false ∧ (N1 : Int) < N2 ∧ (N : Int) < N2 ∧ (N : Int) < N1 := by
  refine ⟨by simpa using (by omega : ¬ (N1 : Int) = N), by simpa using (by omega : ¬ (N2 : Int) = N), by omega, by omega, by omega⟩
theorem frmL_all {h : Hd} {r : List UInt8} : ∀ b ∈ frmL h r, b.length = 128 := by
  intro b hb
  unfold frmL at hb
  split at hb
  · exact row_all b hb
  · simp at hb
theorem frmL_small (h : Hd) (r : List UInt8) : (frmL h r).length ≤ 154 := by
  unfold frmL
  split
  · rename_i e; exact rowB_small (frmE_ok e).2.2
  · exact Nat.zero_le _
/-- What stands behind the records of before. -/
def extA (a b : Bool) (o1 o2 : Op) : List Op := if a then (if b then [o1, o2] else [o1]) else []

set_option maxHeartbeats 8000000 in
set_option maxRecDepth 100000 in
theorem frameAgain_any (gn : Nat) (a : Option Addr) (n c : Nat) (l : List (List UInt8)) (a3 : Option Addr) (n3 c3 : Nat) (one : List UInt8) (a4 : Option Addr) (n4 c4 : Nat) (two : List UInt8) (a5 : Option Addr) (n5 c5 : Nat) (K : List Bool) (w : World) (hg : gn < 4294967296) (hrd : RdL w (.slice a n c) l) (hr3 : Rd w (.slice a3 n3 c3) one) (hn3 : n3 = one.length) (hr4 : Rd w (.slice a4 n4 c4) two) (hn4 : n4 = two.length) (hrk : RdK w (.slice a5 n5 c5) K) :
    Calls Try.prog 5 #[.int .u32 gn, .slice a n c, .slice a3 n3 c3, .slice a4 n4 c4, .slice a5 n5 c5] w fun e w' => e = .returned (.bool true) ∧ Below w.heap.size w w' := by
  have HR := hide hrd
  have HN := hide hrd.le.1
  have HR3 := hide hr3
  have HN3 := hide hn3
  have HR4 := hide hr4
  have HN4 := hide hn4
  have HRK := hide hrk
  have HG := hide hg
  clear hrd hr3 hn3 hr4 hn4 hrk hg
  go_enter Try.func5, Try.ntmps5
  go_wp2_with fail
  refine (alive8_any _).mono ?_
  rintro e w1 ⟨rfl, hb1⟩
  by_cases h2 : 1000 < n
  · have h2' : (1000 : Int) < n := by omega
    go_wp2
    go_ret
    exact ⟨rfl, hb1⟩
  have h2' : decide ((1000 : Int) < n) = false := by simpa using (by omega : ¬ (1000 : Int) < n)
  go_wp2_with fail
  refine (heavy8_any a n c l _ (HR.out.carry hb1)).mono ?_
  rintro e w2 ⟨⟨hv, rfl⟩, rfl⟩
  cases hv
  rotate_left
  · go_wp2
    go_ret
    exact ⟨rfl, hb1⟩
  by_cases h20 : 5000 < n3
  · have h20' : (5000 : Int) < n3 := by omega
    go_wp2
    go_ret
    exact ⟨rfl, hb1⟩
  have h20' : decide ((5000 : Int) < n3) = false := by simpa using (by omega : ¬ (5000 : Int) < n3)
  by_cases h21 : 5000 < n4
  · have h21' : (5000 : Int) < n4 := by omega
    go_wp2
    go_ret
    exact ⟨rfl, hb1⟩
  have h21' : decide ((5000 : Int) < n4) = false := by simpa using (by omega : ¬ (5000 : Int) < n4)
  by_cases h10 : 1000 < n5
  · have h10' : (1000 : Int) < n5 := by omega
    go_wp2
    go_ret
    exact ⟨rfl, hb1⟩
  have h10' : decide ((1000 : Int) < n5) = false := by simpa using (by omega : ¬ (1000 : Int) < n5)
  have hn2 : n ≤ 1000 := by omega
  clear h2 h20 h21 h10
  go_wp2_with fail
  refine (read_fr gn a n c l _ HG.out (HR.out.carry hb1)).mono ?_
  rintro e w3 ⟨rv, rfl, hO3, hb3⟩
  have hB3 : Below w.heap.size w w3 := hb1.trans (hb3.mono hb1.size)
  have hx3 : ∀ o, Below w.heap.size w (w3.alloc o) := fun o => hB3.alloc hB3.size o
  clear hb3 hb1 h2' h20' h21' h10'
  by_cases he : rdE gn l = 0
  rotate_left
  · obtain ⟨E, hE⟩ : ∃ E, E = rdE gn l := ⟨_, rfl⟩
    rw [← hE] at he ⊢
    have hne : (E != 0) = true := by simpa using he
    obtain ⟨ra, rc, hf⟩ := hO3.form
    subst hf
    generalize (rdG gn l).2.1 = k1
    generalize (rdG gn l).2.2.1 = k2
    generalize (rdG gn l).2.2.2 = k3
    clear hE he hO3
    go_wp2
    all_goals (go_ret; exact ⟨rfl, hx3 _⟩)
  have HE := hide he
  have HGL := hide (log_lt gn l)
  rw [he, rdG_ok he]
  rw [rdG_ok he] at hO3
  obtain ⟨S, hS⟩ : ∃ S, S = logO gn l := ⟨_, rfl⟩
  have HSE := hide hS
  rw [← hS] at hO3 HGL ⊢
  obtain ⟨ra, rc, hf⟩ := hO3.form
  rw [List.length_map] at hf
  obtain ⟨N, hN⟩ : ∃ N, N = S.length := ⟨_, rfl⟩
  obtain ⟨k, hk⟩ : ∃ k, k = sumO S := ⟨_, rfl⟩
  obtain ⟨p, hp⟩ : ∃ p, p = endO 0 S := ⟨_, rfl⟩
  obtain ⟨m, hm⟩ : ∃ m, m = greatB gn (l.drop (sumO S)) := ⟨_, rfl⟩
  obtain ⟨recs, hrecs⟩ : ∃ recs, recs = S.map (·.1) := ⟨_, rfl⟩
  rw [← hN] at hf
  rw [← hm, ← hk, ← hp]
  subst hf
  rw [← hrecs] at hO3
  have HV := hide (show N = S.length ∧ k = sumO S ∧ p = endO 0 S ∧ m = greatB gn (l.drop (sumO S)) ∧ recs = S.map (·.1) from ⟨hN, hk, hp, hm, hrecs⟩)
  have HO3 := hide hO3
  have hkn : k ≤ n := by rw [hk, HN.out]; exact HGL.out.2.1
  have hNk : N ≤ k := by rw [hN, hk]; exact HGL.out.1
  have HPL := hide (show p < 4294967296 by rw [hp]; exact HGL.out.2.2.1)
  have HRLn := hide (show recs.length = N by rw [hrecs, List.length_map, hN])
  clear he hS hN hk hp hm hrecs hO3
  obtain ⟨B1, hB1e⟩ : ∃ B1, B1 = w3.heap.size := ⟨_, rfl⟩
  obtain ⟨wA, hwA⟩ : ∃ wA, wA = w3.alloc (.cells #[.slice ra N rc, .int .i64 k, .int .u32 p, .int .u32 m] 31) := ⟨_, rfl⟩
  have HLA := hide (show LogAt wA B1 (.slice ra N rc) k p m by rw [hwA, hB1e]; exact heap_alloc_new _ _)
  have hbA : Below w3.heap.size w3 wA := by rw [hwA]; exact (Below.refl _ _).alloc (Nat.le_refl _) _
  have hBA : Below w.heap.size w wA := hB3.trans (hbA.mono hB3.size)
  have HOA := hide (HO3.out.carry hbA)
  have HB1 := hide hB1e
  have HWA := hide hwA
  clear hwA hB1e
  obtain ⟨s, hs⟩ : ∃ s, s = max p m := ⟨_, rfl⟩
  have hmx : (if p < m then (m : Int) else (p : Int)) = (s : Int) := by rw [hs]; exact max2_if p m
  have HS12 := hide (max_fr hs)
  clear hs
  by_cases hs1 : 4294967293 < s
  · have hs1' : (4294967293 : Int) < s := by omega
    go_wp2
    go_ret
    exact ⟨rfl, hx3 _⟩
  have hs1' : decide ((4294967293 : Int) < s) = false := by simpa using (by omega : ¬ (4294967293 : Int) < s)
  obtain ⟨N1, hN1⟩ : ∃ N1, N1 = 1 + N := ⟨_, rfl⟩
  obtain ⟨N2, hN2⟩ : ∃ N2, N2 = 2 + N := ⟨_, rfl⟩
  obtain ⟨s1, hs1e⟩ : ∃ s1, s1 = s + 1 := ⟨_, rfl⟩
  obtain ⟨s2, hs2e⟩ : ∃ s2, s2 = s + 2 := ⟨_, rfl⟩
  have HNN := hide (show N1 = 1 + N ∧ N2 = 2 + N ∧ s1 = s + 1 ∧ s2 = s + 2 from ⟨hN1, hN2, hs1e, hs2e⟩)
  have hN4 : N ≤ 4096 := Nat.le_trans hNk (Nat.le_trans hkn (Nat.le_trans hn2 (by decide)))
  obtain ⟨ha1, ha2, ha3, ha4⟩ := num_fr N N1 hN1 hN4
  obtain ⟨hc1, hc2, hc3, hc4⟩ := num2_fr N N2 hN2 hN4
  obtain ⟨hd1, hd2, hd3, hd4, hd5, hd6⟩ := salt_fr s s1 s2 hs1e hs2e (Nat.le_of_not_lt hs1)
  clear hs1 hN1 hN2 hs1e hs2e
  go_wp2_with fail
  rw [← HB1.out, ← HWA.out]
  clear hs1' hmx hx3
  refine (frame_any (gn, N1, s1, p) a3 n3 c3 one _ (okH_of HG.out ha4 hd5 HPL.out) HN3.out (HR3.out.carry hBA)).mono ?_
  rintro e w5 ⟨v5, rfl, hO5, hb5⟩
  obtain ⟨ra5, rc5, hf5⟩ := hO5.form
  obtain ⟨P, hP⟩ : ∃ P, P = frmL (gn, N1, s1, p) one := ⟨_, rfl⟩
  rw [← hP] at hO5 hf5
  have HP := hide hP
  obtain ⟨q1, hq1⟩ : ∃ q1, q1 = P.length := ⟨_, rfl⟩
  have hq1l : q1 ≤ 154 := by rw [hq1, hP]; exact frmL_small _ _
  rw [← hq1] at hf5
  subst hf5
  have HQ1 := hide hq1
  have hB5 : Below w.heap.size w w5 := hBA.trans (hb5.mono hBA.size)
  have HL5 := hide (HLA.out.carry hb5 HLA.out.lt (Nat.le_refl _))
  have HO5a := hide (HOA.out.carry hb5)
  have HO5 := hide hO5
  obtain ⟨cc0, cc1, cc2, cc3, -⟩ := HL5.out.cells
  obtain ⟨E1, hE1⟩ : ∃ E1, E1 = frmE (gn, N1, s1, p) one := ⟨_, rfl⟩
  rw [← hE1]
  have HE1 := hide hE1
  clear hb5 ha1 ha2 ha3 hP hq1 hO5 hE1
  go_wp2_with fail
  refine (frame_any (gn, N2, s2, s1) a4 n4 c4 two _ (okH_of HG.out hc4 hd6 hd5) HN4.out (HR4.out.carry hB5)).mono ?_
  rintro e w6 ⟨v6, rfl, hO6, hb6⟩
  obtain ⟨ra6, rc6, hf6⟩ := hO6.form
  obtain ⟨Q, hQ⟩ : ∃ Q, Q = frmL (gn, N2, s2, s1) two := ⟨_, rfl⟩
  rw [← hQ] at hO6 hf6
  have HQ := hide hQ
  obtain ⟨q2, hq2⟩ : ∃ q2, q2 = Q.length := ⟨_, rfl⟩
  have hq2l : q2 ≤ 154 := by rw [hq2, hQ]; exact frmL_small _ _
  rw [← hq2] at hf6
  subst hf6
  have HQ2 := hide hq2
  have hB6 : Below w.heap.size w w6 := hB5.trans (hb6.mono hB5.size)
  have HL6 := hide (HL5.out.carry hb6 HL5.out.lt (Nat.le_refl _))
  have HO6a := hide (HO5a.out.carry hb6)
  have HO6b := hide (HO5.out.carry hb6)
  have HO6 := hide hO6
  obtain ⟨E2, hE2⟩ : ∃ E2, E2 = frmE (gn, N2, s2, s1) two := ⟨_, rfl⟩
  rw [← hE2]
  have HE2 := hide hE2
  clear hb6 hc1 hc2 hc3 hd1 hd2 hd3 hd4 hQ hq2 hO6 hE2 cc0 cc1 cc2 cc3
  have HLEN := hide (show 0 + P.length ≤ 1000000 ∧ (P).length + Q.length ≤ 1000000 by rw [← HQ1.out, ← HQ2.out]; omega)
  -- both rows as one
  have HSTEP := hide (fun (v9 : Value) (w9 : World) (hrow : RowR w6 w9 v9 (P ++ Q)) (hbel : Below w6.heap.size w6 w9) => by
    obtain ⟨a9, c9, hf⟩ := hrow.form
    have hB9 : Below w.heap.size w w9 := hB6.trans (hbel.mono hB6.size)
    exact (⟨a9, c9, hf, hrow.rdL hbel, hB9, HL6.out.carry hbel HL6.out.lt (Nat.le_refl _), HO6a.out.carry hbel⟩ : ∃ a9 c9, v9 = .slice a9 (P ++ Q).length c9 ∧ RdL w9 v9 (P ++ Q) ∧ Below w.heap.size w w9 ∧ LogAt w9 B1 (.slice ra N rc) k p m ∧ OwBB w9 _ (.slice ra N rc) recs))
  obtain ⟨q, hq⟩ : ∃ q, q = (P ++ Q).length := ⟨_, rfl⟩
  have hql : q = q1 + q2 := by rw [hq, List.length_append, HQ1.out, HQ2.out]
  rw [← hq] at HSTEP
  have HQQ := hide hq
  have HQL := hide hql
  have hql4 : q ≤ 308 := by omega
  clear hq hql
  by_cases hE1 : E1 = 0
  rotate_left
  · have hne : (E1 != 0) = true := by simpa using hE1
    clear hE1
    go_wp2_with (first | (at_builtin; refine wpList_appR w6 w6 rfl (.const (.slice none 0 0)) (.tmp 98) 22 rfl Try.underlying22 Try.infoSl8 _ [] (RowR.nil _ _) rfl (Below.refl _ _) _ P HO6b.out.rdL rfl (by simpa using HLEN.out.1) ?_; intro v7 w7 hrow7 hbel7; rw [List.nil_append] at hrow7; have HROW7 := hide hrow7; clear hrow7) | (at_builtin; refine wpList_appR w6 w7 rfl (.tmp 99) (.tmp 100) 22 rfl Try.underlying22 Try.infoSl8 _ _ HROW7.out rfl hbel7 _ Q HO6.out.rdL rfl HLEN.out.2 ?_; intro v8 w8 hrow8 hbel8; obtain ⟨a9, c9, hf9, hrd9, hB9, hlg9, how9⟩ := HSTEP.out v8 w8 hrow8 hbel8; subst hf9; have HRD9 := hide hrd9; have HLG9 := hide hlg9; have HOW9 := hide how9; obtain ⟨cc0, cc1, cc2, cc3, -⟩ := HLG9.out.cells; clear hrow8 hbel8 hbel7 HROW7 hrd9 hlg9 how9) | fail)
    go_ret
    exact ⟨rfl, hB9⟩
  by_cases hE2 : E2 = 0
  rotate_left
  · have hne : (E2 != 0) = true := by simpa using hE2
    subst hE1
    clear hE2
    go_wp2_with (first | (at_builtin; refine wpList_appR w6 w6 rfl (.const (.slice none 0 0)) (.tmp 98) 22 rfl Try.underlying22 Try.infoSl8 _ [] (RowR.nil _ _) rfl (Below.refl _ _) _ P HO6b.out.rdL rfl (by simpa using HLEN.out.1) ?_; intro v7 w7 hrow7 hbel7; rw [List.nil_append] at hrow7; have HROW7 := hide hrow7; clear hrow7) | (at_builtin; refine wpList_appR w6 w7 rfl (.tmp 99) (.tmp 100) 22 rfl Try.underlying22 Try.infoSl8 _ _ HROW7.out rfl hbel7 _ Q HO6.out.rdL rfl HLEN.out.2 ?_; intro v8 w8 hrow8 hbel8; obtain ⟨a9, c9, hf9, hrd9, hB9, hlg9, how9⟩ := HSTEP.out v8 w8 hrow8 hbel8; subst hf9; have HRD9 := hide hrd9; have HLG9 := hide hlg9; have HOW9 := hide how9; obtain ⟨cc0, cc1, cc2, cc3, -⟩ := HLG9.out.cells; clear hrow8 hbel8 hbel7 HROW7 hrd9 hlg9 how9) | fail)
    go_ret
    exact ⟨rfl, hB9⟩
  have HF1 := hide (HE1.out.symm.trans hE1)
  have HF2 := hide (HE2.out.symm.trans hE2)
  subst hE1
  subst hE2
  have hsub : wrap64 ((n : Int) - k) = (n : Int) - k := sub_fr n k (by omega) hkn
  by_cases hfit : n - k < q
  · have hfit' : (n : Int) - k < q := by omega
    clear hfit
    go_wp2_with (first | (at_builtin; refine wpList_appR w6 w6 rfl (.const (.slice none 0 0)) (.tmp 98) 22 rfl Try.underlying22 Try.infoSl8 _ [] (RowR.nil _ _) rfl (Below.refl _ _) _ P HO6b.out.rdL rfl (by simpa using HLEN.out.1) ?_; intro v7 w7 hrow7 hbel7; rw [List.nil_append] at hrow7; have HROW7 := hide hrow7; clear hrow7) | (at_builtin; refine wpList_appR w6 w7 rfl (.tmp 99) (.tmp 100) 22 rfl Try.underlying22 Try.infoSl8 _ _ HROW7.out rfl hbel7 _ Q HO6.out.rdL rfl HLEN.out.2 ?_; intro v8 w8 hrow8 hbel8; obtain ⟨a9, c9, hf9, hrd9, hB9, hlg9, how9⟩ := HSTEP.out v8 w8 hrow8 hbel8; subst hf9; have HRD9 := hide hrd9; have HLG9 := hide hlg9; have HOW9 := hide how9; obtain ⟨cc0, cc1, cc2, cc3, -⟩ := HLG9.out.cells; clear hrow8 hbel8 hbel7 HROW7 hrd9 hlg9 how9) | fail)
    go_ret
    exact ⟨rfl, hB9⟩
  have hfit' : decide ((n : Int) - k < q) = false := by simpa using (by omega : ¬ (n : Int) - k < q)
  have hfit2 : ¬ (n : Int) - k < q := by omega
  have HFIT := hide (show q ≤ n - k by omega)
  clear hfit
  go_wp2_with (first | (at_builtin; refine wpList_appR w6 w6 rfl (.const (.slice none 0 0)) (.tmp 98) 22 rfl Try.underlying22 Try.infoSl8 _ [] (RowR.nil _ _) rfl (Below.refl _ _) _ P HO6b.out.rdL rfl (by simpa using HLEN.out.1) ?_; intro v7 w7 hrow7 hbel7; rw [List.nil_append] at hrow7; have HROW7 := hide hrow7; clear hrow7) | (at_builtin; refine wpList_appR w6 w7 rfl (.tmp 99) (.tmp 100) 22 rfl Try.underlying22 Try.infoSl8 _ _ HROW7.out rfl hbel7 _ Q HO6.out.rdL rfl HLEN.out.2 ?_; intro v8 w8 hrow8 hbel8; obtain ⟨a9, c9, hf9, hrd9, hB9, hlg9, how9⟩ := HSTEP.out v8 w8 hrow8 hbel8; subst hf9; have HRD9 := hide hrd9; have HLG9 := hide hlg9; have HOW9 := hide how9; obtain ⟨cc0, cc1, cc2, cc3, -⟩ := HLG9.out.cells; clear hrow8 hbel8 hbel7 HROW7 hrd9 hlg9 how9) | fail)
  clear hsub hfit' hfit2 cc0 cc1 cc2 cc3
  refine (lay8_any a n c l k a9 q c9 (P ++ Q) a5 n5 c5 K _ (HR.out.carry hB9) HRD9.out (HRK.out.carry hB9) (by rw [← HN.out]; omega) (by omega) (by rw [← HQQ.out]; omega)).mono ?_
  rintro e w10 ⟨v10, rfl, hO10, hb10⟩
  obtain ⟨a6, c6, hf6⟩ := hO10.form
  obtain ⟨n6, hn6⟩ : ∃ n6, n6 = (layL l k (P ++ Q) K).length := ⟨_, rfl⟩
  rw [← hn6] at hf6
  subst hf6
  have hB10 : Below w.heap.size w w10 := hB9.trans (hb10.mono hB9.size)
  have HL10 := hide (HLG9.out.carry hb10 HLG9.out.lt (Nat.le_refl _))
  have HO10a := hide (HOW9.out.carry hb10)
  have HO10 := hide hO10
  clear hb10 hO10 hn6
  go_wp2_with fail
  refine (read_fr gn a6 n6 c6 (layL l k (P ++ Q) K) _ HG.out HO10.out).mono ?_
  rintro e w7 ⟨rv7, rfl, hO7, hb7⟩
  have hB7 : Below w.heap.size w w7 := hB10.trans (hb7.mono hB10.size)
  have HL7 := hide (HL10.out.carry hb7 HL10.out.lt (Nat.le_refl _))
  have HO7a := hide (HO10a.out.carry hb7)
  have HE7 := hide (rdE_of (rdE_ok HE.out).1 (layL_chk (at0 := k) (K := K) (rdE_ok HE.out).2 (show ∀ b ∈ P ++ Q, b.length = 128 by
    intro b hb
    rw [HP.out, HQ.out] at hb
    rcases List.mem_append.1 hb with hb | hb
    · exact frmL_all b hb
    · exact frmL_all b hb)))
  have HT := hide (show logO gn (layL l k (P ++ Q) K) = S ++ extA (allK K q1) (allK K q) (one, s1, q1) (two, s2, q2) by
    have e1 : N1 = (logO gn l).length + 1 := by rw [HNN.out.1, HV.out.1, HSE.out]; omega
    have e2 : N2 = (logO gn l).length + 2 := by rw [HNN.out.2.1, HV.out.1, HSE.out]; omega
    have f1 := HF1.out
    have f2 := HF2.out
    have hPr : P = rowB (gn, N1, s1, p) one := by rw [HP.out, frmL_0 f1]
    have hQr : Q = rowB (gn, N2, s2, s1) two := by rw [HQ.out, frmL_0 f2]
    have ep : p = endO 0 (logO gn l) := by rw [HV.out.2.2.1, HSE.out]
    have ek : k = sumO (logO gn l) := by rw [HV.out.2.1, HSE.out]
    have em : m = greatB gn (l.drop (sumO (logO gn l))) := by rw [HV.out.2.2.2.1, HSE.out]
    have hs2 := HNN.out.2.2.2
    have hs1 := HNN.out.2.2.1
    rw [e1, hs1, ep] at hPr f1
    rw [e2, hs2, hs1] at hQr f2
    have := log_again (g := gn) (l := l) (s := s) (one := one) (two := two) (keep := K) HG.out (by rw [← hs2]; exact hd6) (by rw [← ep]; exact HS12.out.1) (by rw [← em]; exact HS12.out.2) hPr hQr f1 f2 (by rw [← HQQ.out, ← ek, ← HN.out]; exact HFIT.out)
    rw [← ek, ← HQQ.out, ← HQ1.out, ← HQ2.out, ← hs1, ← hs2, ← HSE.out] at this
    rw [this]
    unfold extA
    cases allK K q1 <;> cases allK K q <;> simp)
  rw [HE7.out, rdG_ok HE7.out]
  rw [rdG_ok HE7.out, HT.out] at hO7
  obtain ⟨m2, hm2⟩ : ∃ m2, m2 = greatB gn ((layL l k (P ++ Q) K).drop (sumO (logO gn (layL l k (P ++ Q) K)))) := ⟨_, rfl⟩
  obtain ⟨k2, hk2⟩ : ∃ k2, k2 = sumO (logO gn (layL l k (P ++ Q) K)) := ⟨_, rfl⟩
  obtain ⟨p2, hp2⟩ : ∃ p2, p2 = endO 0 (logO gn (layL l k (P ++ Q) K)) := ⟨_, rfl⟩
  dsimp only
  rw [← hm2, ← hk2, ← hp2]
  clear hb7 hm2 hk2 hp2
  obtain ⟨X, hX⟩ : ∃ X, X = (extA (allK K q1) (allK K q) (one, s1, q1) (two, s2, q2)).map (·.1) := ⟨_, rfl⟩
  have hO7 : OwBB w7 w10.heap.size rv7 (recs ++ X) := by
    have h := hO7
    dsimp only at h
    rw [List.map_append, ← HV.out.2.2.2.2, ← hX] at h
    exact h
  have HX := hide hX
  obtain ⟨rb, rc2, hf7⟩ := hO7.form
  obtain ⟨M, hM⟩ : ∃ M, M = (recs ++ X).length := ⟨_, rfl⟩
  rw [← hM] at hf7
  subst hf7
  have HM := hide (show M = N + X.length by rw [hM, List.length_append, HRLn.out])
  have hRt := (hO7.rdL).take N (by rw [List.length_append, HRLn.out]; omega)
  rw [List.take_left' HRLn.out] at hRt
  have HMC := hide hO7.rdL.le.2.1
  obtain ⟨B2, hB2e⟩ : ∃ B2, B2 = w7.heap.size := ⟨_, rfl⟩
  obtain ⟨wB, hwB⟩ : ∃ wB, wB = w7.alloc (.cells #[.slice rb M rc2, .int .i64 k2, .int .u32 p2, .int .u32 m2] 31) := ⟨_, rfl⟩
  have hbB : Below w7.heap.size w7 wB := by rw [hwB]; exact (Below.refl _ _).alloc (Nat.le_refl _) _
  have HLB := hide (show LogAt wB B2 (.slice rb M rc2) k2 p2 m2 by rw [hwB, hB2e]; exact heap_alloc_new _ _)
  have HLB1 := hide (HL7.out.carry hbB HL7.out.lt (Nat.le_refl _))
  have HO7 := hide hO7
  have HRB := hide (hRt.carry hbB)
  have HRA := hide ((HO7a.out.carry hbB).rdL)
  have hBB : Below w.heap.size w wB := hB7.trans (hbB.mono hB7.size)
  have hbBB := hbB
  have HWB := hide hwB
  have HB2 := hide hB2e
  have cc0 : (w7.alloc (.cells #[.slice rb M rc2, .int .i64 k2, .int .u32 p2, .int .u32 m2] 31)).cell? ⟨B1, 0, none⟩ = some (.slice ra N rc) := by have h := HLB1.out.cells.1; rw [hwB] at h; exact h
  clear hwB hB2e hO7 hX hM hRt hbB
  go_wp2
  clear cc0
  rw [← HB2.out, ← HWB.out]
  obtain ⟨hnc0, hnc1, hnc2, hnc3⟩ := again_fr N M rc2 X.length HM.out HMC.out
  have hK : Keeps (fun wx => LogAt wx B1 (.slice ra N rc) k p m ∧ LogAt wx B2 (.slice rb M rc2) k2 p2 m2 ∧ RdL wx (.slice rb N rc2) recs ∧ RdL wx (.slice ra N rc) recs ∧ Below w.heap.size w wx ∧ Below w7.heap.size w7 wx) := (keeps_block _ _).and ((keeps_block _ _).and (Keeps.and (fun _ _ h hb => h.carry hb) (Keeps.and (fun _ _ h hb => h.carry hb) ((keeps_below w).and (keeps_below w7)))))
  have hS0 : (fun wx => LogAt wx B1 (.slice ra N rc) k p m ∧ LogAt wx B2 (.slice rb M rc2) k2 p2 m2 ∧ RdL wx (.slice rb N rc2) recs ∧ RdL wx (.slice ra N rc) recs ∧ Below w.heap.size w wx ∧ Below w7.heap.size w7 wx) wB := ⟨HLB1.out, HLB.out, HRB.out, HRA.out, hBB, hbBB⟩
  clear hBB hbBB
  refine reg_begin hK (by kernel_rfl) hS0 ?_
  clear hS0
  intro hS
  generalize wB.drew = wd at *
  refine reg_take (i := 0) (v := ?qsv0) rfl (by kernel_rfl) (by kernel_rfl) (by kernel_rfl) (by kernel_rfl) ?qsy0 hS ?qsr0
  case qsy0 => (rintro wx ⟨x1, x2, x3, x4, x5, x6⟩; obtain ⟨u0, u1, u2, u3, u4⟩ := x1.cells; obtain ⟨v0, v1, v2, v3, v4⟩ := x2.cells; go_simp; all_goals (with_reducible rfl))
  try simp only [Act.put, List.setIfInBounds_toArray, List.set_cons_zero, List.set_cons_succ]
  refine reg_take (i := 1) (v := ?qsv1) rfl (by kernel_rfl) (by kernel_rfl) (by kernel_rfl) (by kernel_rfl) ?qsy1 hS ?qsr1
  case qsy1 => (rintro wx ⟨x1, x2, x3, x4, x5, x6⟩; obtain ⟨u0, u1, u2, u3, u4⟩ := x1.cells; obtain ⟨v0, v1, v2, v3, v4⟩ := x2.cells; go_simp; all_goals (with_reducible rfl))
  try simp only [Act.put, List.setIfInBounds_toArray, List.set_cons_zero, List.set_cons_succ]
  refine reg_take (i := 2) (v := ?qsv2) rfl (by kernel_rfl) (by kernel_rfl) (by kernel_rfl) (by kernel_rfl) ?qsy2 hS ?qsr2
  case qsy2 => (rintro wx ⟨x1, x2, x3, x4, x5, x6⟩; obtain ⟨u0, u1, u2, u3, u4⟩ := x1.cells; obtain ⟨v0, v1, v2, v3, v4⟩ := x2.cells; go_simp; all_goals (with_reducible rfl))
  try simp only [Act.put, List.setIfInBounds_toArray, List.set_cons_zero, List.set_cons_succ]
  refine reg_take (i := 3) (v := ?qsv3) rfl (by kernel_rfl) (by kernel_rfl) (by kernel_rfl) (by kernel_rfl) ?qsy3 hS ?qsr3
  case qsy3 => (rintro wx ⟨x1, x2, x3, x4, x5, x6⟩; obtain ⟨u0, u1, u2, u3, u4⟩ := x1.cells; obtain ⟨v0, v1, v2, v3, v4⟩ := x2.cells; go_simp; all_goals (with_reducible rfl))
  try simp only [Act.put, List.setIfInBounds_toArray, List.set_cons_zero, List.set_cons_succ]
  refine reg_take (i := 4) (v := ?qsv4) rfl (by kernel_rfl) (by kernel_rfl) (by kernel_rfl) (by kernel_rfl) ?qsy4 hS ?qsr4
  case qsy4 => (rintro wx ⟨x1, x2, x3, x4, x5, x6⟩; obtain ⟨u0, u1, u2, u3, u4⟩ := x1.cells; obtain ⟨v0, v1, v2, v3, v4⟩ := x2.cells; go_simp; all_goals (with_reducible rfl))
  try simp only [Act.put, List.setIfInBounds_toArray, List.set_cons_zero, List.set_cons_succ]
  refine reg_take (i := 5) (v := ?qsv5) rfl (by kernel_rfl) (by kernel_rfl) (by kernel_rfl) (by kernel_rfl) ?qsy5 hS ?qsr5
  case qsy5 => (rintro wx ⟨x1, x2, x3, x4, x5, x6⟩; obtain ⟨u0, u1, u2, u3, u4⟩ := x1.cells; obtain ⟨v0, v1, v2, v3, v4⟩ := x2.cells; go_simp; all_goals (with_reducible rfl))
  try simp only [Act.put, List.setIfInBounds_toArray, List.set_cons_zero, List.set_cons_succ]
  refine reg_take (i := 6) (v := ?qsv6) rfl (by kernel_rfl) (by kernel_rfl) (by kernel_rfl) (by kernel_rfl) ?qsy6 hS ?qsr6
  case qsy6 => (rintro wx ⟨x1, x2, x3, x4, x5, x6⟩; obtain ⟨u0, u1, u2, u3, u4⟩ := x1.cells; obtain ⟨v0, v1, v2, v3, v4⟩ := x2.cells; go_simp; all_goals (with_reducible rfl))
  try simp only [Act.put, List.setIfInBounds_toArray, List.set_cons_zero, List.set_cons_succ]
  refine reg_take (i := 7) (v := ?qsv7) rfl (by kernel_rfl) (by kernel_rfl) (by kernel_rfl) (by kernel_rfl) ?qsy7 hS ?qsr7
  case qsy7 => (rintro wx ⟨x1, x2, x3, x4, x5, x6⟩; obtain ⟨u0, u1, u2, u3, u4⟩ := x1.cells; obtain ⟨v0, v1, v2, v3, v4⟩ := x2.cells; go_simp; all_goals (with_reducible rfl))
  try simp only [Act.put, List.setIfInBounds_toArray, List.set_cons_zero, List.set_cons_succ]
  refine reg_take (i := 8) (v := ?qsv8) rfl (by kernel_rfl) (by kernel_rfl) (by kernel_rfl) (by kernel_rfl) ?qsy8 hS ?qsr8
  case qsy8 => (rintro wx ⟨x1, x2, x3, x4, x5, x6⟩; obtain ⟨u0, u1, u2, u3, u4⟩ := x1.cells; obtain ⟨v0, v1, v2, v3, v4⟩ := x2.cells; go_simp; all_goals (with_reducible rfl))
  try simp only [Act.put, List.setIfInBounds_toArray, List.set_cons_zero, List.set_cons_succ]
  refine reg_take (i := 9) (v := ?qsv9) rfl (by kernel_rfl) (by kernel_rfl) (by kernel_rfl) (by kernel_rfl) ?qsy9 hS ?qsr9
  case qsy9 => (rintro wx ⟨x1, x2, x3, x4, x5, x6⟩; obtain ⟨u0, u1, u2, u3, u4⟩ := x1.cells; obtain ⟨v0, v1, v2, v3, v4⟩ := x2.cells; go_simp; all_goals (with_reducible rfl))
  try simp only [Act.put, List.setIfInBounds_toArray, List.set_cons_zero, List.set_cons_succ]
  refine reg_take (i := 10) (v := ?qsv10) rfl (by kernel_rfl) (by kernel_rfl) (by kernel_rfl) (by kernel_rfl) ?qsy10 hS ?qsr10
  case qsy10 => (rintro wx ⟨x1, x2, x3, x4, x5, x6⟩; obtain ⟨u0, u1, u2, u3, u4⟩ := x1.cells; obtain ⟨v0, v1, v2, v3, v4⟩ := x2.cells; go_simp; all_goals (with_reducible rfl))
  try simp only [Act.put, List.setIfInBounds_toArray, List.set_cons_zero, List.set_cons_succ]
  refine reg_take (i := 11) (v := ?qsv11) rfl (by kernel_rfl) (by kernel_rfl) (by kernel_rfl) (by kernel_rfl) ?qsy11 hS ?qsr11
  case qsy11 => (rintro wx ⟨x1, x2, x3, x4, x5, x6⟩; obtain ⟨u0, u1, u2, u3, u4⟩ := x1.cells; obtain ⟨v0, v1, v2, v3, v4⟩ := x2.cells; go_simp; all_goals (with_reducible rfl))
  try simp only [Act.put, List.setIfInBounds_toArray, List.set_cons_zero, List.set_cons_succ]
  refine reg_take (i := 12) (v := ?qsv12) rfl (by kernel_rfl) (by kernel_rfl) (by kernel_rfl) (by kernel_rfl) ?qsy12 hS ?qsr12
  case qsy12 => (rintro wx ⟨x1, x2, x3, x4, x5, x6⟩; obtain ⟨u0, u1, u2, u3, u4⟩ := x1.cells; obtain ⟨v0, v1, v2, v3, v4⟩ := x2.cells; go_simp; all_goals (with_reducible rfl))
  try simp only [Act.put, List.setIfInBounds_toArray, List.set_cons_zero, List.set_cons_succ]
  refine reg_take (i := 13) (v := ?qsv13) rfl (by kernel_rfl) (by kernel_rfl) (by kernel_rfl) (by kernel_rfl) ?qsy13 hS ?qsr13
  case qsy13 => (rintro wx ⟨x1, x2, x3, x4, x5, x6⟩; obtain ⟨u0, u1, u2, u3, u4⟩ := x1.cells; obtain ⟨v0, v1, v2, v3, v4⟩ := x2.cells; go_simp; all_goals (with_reducible rfl))
  try simp only [Act.put, List.setIfInBounds_toArray, List.set_cons_zero, List.set_cons_succ]
  refine reg_take (i := 14) (v := ?qsv14) rfl (by kernel_rfl) (by kernel_rfl) (by kernel_rfl) (by kernel_rfl) ?qsy14 hS ?qsr14
  case qsy14 => (rintro wx ⟨x1, x2, x3, x4, x5, x6⟩; obtain ⟨u0, u1, u2, u3, u4⟩ := x1.cells; obtain ⟨v0, v1, v2, v3, v4⟩ := x2.cells; go_simp; all_goals (with_reducible rfl))
  try simp only [Act.put, List.setIfInBounds_toArray, List.set_cons_zero, List.set_cons_succ]
  refine reg_take (i := 15) (v := ?qsv15) rfl (by kernel_rfl) (by kernel_rfl) (by kernel_rfl) (by kernel_rfl) ?qsy15 hS ?qsr15
  case qsy15 => (rintro wx ⟨x1, x2, x3, x4, x5, x6⟩; obtain ⟨u0, u1, u2, u3, u4⟩ := x1.cells; obtain ⟨v0, v1, v2, v3, v4⟩ := x2.cells; go_simp; all_goals (with_reducible rfl))
  try simp only [Act.put, List.setIfInBounds_toArray, List.set_cons_zero, List.set_cons_succ]
  refine reg_callv hK (i := 16) (v := .bool true) rfl (by kernel_rfl) (by rfl) (by go_simp) hS ((same8_any _ _ _ _ _ _ _ _ _ hS.2.2.1 hS.2.2.2.1).mono fun e w1 ⟨h1, h2⟩ => ⟨by rw [h1, decide_eq_true rfl], h2⟩) ?_
  clear hS
  intro w149 hS
  try simp only [Act.put, List.setIfInBounds_toArray, List.set_cons_zero, List.set_cons_succ]
  refine reg_take (i := 17) (v := ?qsv17) rfl (by kernel_rfl) (by kernel_rfl) (by kernel_rfl) (by kernel_rfl) ?qsy17 hS ?qsr17
  case qsy17 => (rintro wx ⟨x1, x2, x3, x4, x5, x6⟩; obtain ⟨u0, u1, u2, u3, u4⟩ := x1.cells; obtain ⟨v0, v1, v2, v3, v4⟩ := x2.cells; go_simp; all_goals (with_reducible rfl))
  try simp only [Act.put, List.setIfInBounds_toArray, List.set_cons_zero, List.set_cons_succ]
  refine reg_take (i := 18) (v := ?qsv18) rfl (by kernel_rfl) (by kernel_rfl) (by kernel_rfl) (by kernel_rfl) ?qsy18 hS ?qsr18
  case qsy18 => (rintro wx ⟨x1, x2, x3, x4, x5, x6⟩; obtain ⟨u0, u1, u2, u3, u4⟩ := x1.cells; obtain ⟨v0, v1, v2, v3, v4⟩ := x2.cells; go_simp; all_goals (with_reducible rfl))
  try simp only [Act.put, List.setIfInBounds_toArray, List.set_cons_zero, List.set_cons_succ]
  refine wpAnyH_done (by kernel_rfl) ?_ _
  refine NoPanic.normal ?_
  obtain ⟨u1, u2, -, -, hB8, hb8⟩ := hS
  have HL8 := hide u2
  clear hK u1 u2 hnc0 hnc1 hnc2 hnc3
  obtain ⟨w8, hw8⟩ : ∃ w8, w8 = w149 := ⟨_, rfl⟩
  rw [← hw8] at HL8 hB8 hb8 ⊢
  clear hw8
  go_wp2_with fail
  refine (all8_any a5 n5 c5 q1 K _ (HRK.out.carry hB8) (by omega)).mono ?_
  rintro e w8' ⟨rfl, rfl⟩
  obtain ⟨w8, hw8⟩ : ∃ w8, w8 = w8' := ⟨_, rfl⟩
  rw [← hw8] at HL8 hB8 hb8 ⊢
  clear hw8
  have HA1 := hide (num_fr N N1 HNN.out.1 hN4)
  have HA2 := hide (num2_fr N N2 HNN.out.2.1 hN4)
  obtain ⟨e01, e02, e12, e00, e001⟩ := cmp_fr N N1 N2 HNN.out.1 HNN.out.2.1
  cases hK1 : allK K q1
  · have hXn : X = [] := by rw [HX.out, hK1]; rfl
    have hMN : N = M := by rw [HM.out, hXn]; rfl
    subst hMN
    clear hXn hK1
    go_wp2
    obtain ⟨-, -, -, -⟩ := HA1.out
    obtain ⟨hw1, hw2, -, -⟩ := HA2.out
    have hK : Keeps (fun wx => LogAt wx B2 (.slice rb N rc2) k2 p2 m2 ∧ Below w.heap.size w wx) := (keeps_block _ _).and (keeps_below w)
    have hS0 : (fun wx => LogAt wx B2 (.slice rb N rc2) k2 p2 m2 ∧ Below w.heap.size w wx) w8 := ⟨HL8.out, hB8⟩
    clear hB8
    refine reg_begin hK (by kernel_rfl) hS0 ?_
    clear hS0
    intro hS
    generalize w8.drew = wd at *
    refine reg_take (i := 0) (v := ?qav0) rfl (by kernel_rfl) (by kernel_rfl) (by kernel_rfl) (by kernel_rfl) ?qay0 hS ?qar0
    case qay0 => (rintro wx ⟨x1, x2⟩; obtain ⟨u0, u1, u2, u3, u4⟩ := x1.cells; go_simp; all_goals (with_reducible rfl))
    try simp only [Act.put, List.setIfInBounds_toArray, List.set_cons_zero, List.set_cons_succ]
    refine reg_take (i := 1) (v := ?qav1) rfl (by kernel_rfl) (by kernel_rfl) (by kernel_rfl) (by kernel_rfl) ?qay1 hS ?qar1
    case qay1 => (rintro wx ⟨x1, x2⟩; obtain ⟨u0, u1, u2, u3, u4⟩ := x1.cells; go_simp; all_goals (with_reducible rfl))
    try simp only [Act.put, List.setIfInBounds_toArray, List.set_cons_zero, List.set_cons_succ]
    refine reg_take (i := 2) (v := ?qav2) rfl (by kernel_rfl) (by kernel_rfl) (by kernel_rfl) (by kernel_rfl) ?qay2 hS ?qar2
    case qay2 => (rintro wx ⟨x1, x2⟩; obtain ⟨u0, u1, u2, u3, u4⟩ := x1.cells; go_simp; all_goals (with_reducible rfl))
    try simp only [Act.put, List.setIfInBounds_toArray, List.set_cons_zero, List.set_cons_succ]
    refine reg_take (i := 3) (v := ?qav3) rfl (by kernel_rfl) (by kernel_rfl) (by kernel_rfl) (by kernel_rfl) ?qay3 hS ?qar3
    case qay3 => (rintro wx ⟨x1, x2⟩; obtain ⟨u0, u1, u2, u3, u4⟩ := x1.cells; go_simp; all_goals (with_reducible rfl))
    try simp only [Act.put, List.setIfInBounds_toArray, List.set_cons_zero, List.set_cons_succ]
    refine reg_take (i := 4) (v := ?qav4) rfl (by kernel_rfl) (by kernel_rfl) (by kernel_rfl) (by kernel_rfl) ?qay4 hS ?qar4
    case qay4 => (rintro wx ⟨x1, x2⟩; obtain ⟨u0, u1, u2, u3, u4⟩ := x1.cells; go_simp; all_goals (with_reducible rfl))
    try simp only [Act.put, List.setIfInBounds_toArray, List.set_cons_zero, List.set_cons_succ]
    refine reg_take (i := 5) (v := ?qav5) rfl (by kernel_rfl) (by kernel_rfl) (by kernel_rfl) (by kernel_rfl) ?qay5 hS ?qar5
    case qay5 => (rintro wx ⟨x1, x2⟩; obtain ⟨u0, u1, u2, u3, u4⟩ := x1.cells; go_simp; all_goals (with_reducible rfl))
    try simp only [Act.put, List.setIfInBounds_toArray, List.set_cons_zero, List.set_cons_succ]
    refine reg_take (i := 6) (v := ?qav6) rfl (by kernel_rfl) (by kernel_rfl) (by kernel_rfl) (by kernel_rfl) ?qay6 hS ?qar6
    case qay6 => (rintro wx ⟨x1, x2⟩; obtain ⟨u0, u1, u2, u3, u4⟩ := x1.cells; go_simp; all_goals (with_reducible rfl))
    try simp only [Act.put, List.setIfInBounds_toArray, List.set_cons_zero, List.set_cons_succ]
    refine reg_take (i := 7) (v := ?qav7) rfl (by kernel_rfl) (by kernel_rfl) (by kernel_rfl) (by kernel_rfl) ?qay7 hS ?qar7
    case qay7 => (rintro wx ⟨x1, x2⟩; obtain ⟨u0, u1, u2, u3, u4⟩ := x1.cells; go_simp; all_goals (with_reducible rfl))
    try simp only [Act.put, List.setIfInBounds_toArray, List.set_cons_zero, List.set_cons_succ]
    refine reg_take (i := 8) (v := ?qav8) rfl (by kernel_rfl) (by kernel_rfl) (by kernel_rfl) (by kernel_rfl) ?qay8 hS ?qar8
    case qay8 => (rintro wx ⟨x1, x2⟩; obtain ⟨u0, u1, u2, u3, u4⟩ := x1.cells; go_simp; all_goals (with_reducible rfl))
    try simp only [Act.put, List.setIfInBounds_toArray, List.set_cons_zero, List.set_cons_succ]
    refine reg_take (i := 9) (v := ?qav9) rfl (by kernel_rfl) (by kernel_rfl) (by kernel_rfl) (by kernel_rfl) ?qay9 hS ?qar9
    case qay9 => (rintro wx ⟨x1, x2⟩; obtain ⟨u0, u1, u2, u3, u4⟩ := x1.cells; go_simp; all_goals (with_reducible rfl))
    try simp only [Act.put, List.setIfInBounds_toArray, List.set_cons_zero, List.set_cons_succ]
    refine reg_take (i := 10) (v := ?qav10) rfl (by kernel_rfl) (by kernel_rfl) (by kernel_rfl) (by kernel_rfl) ?qay10 hS ?qar10
    case qay10 => (rintro wx ⟨x1, x2⟩; obtain ⟨u0, u1, u2, u3, u4⟩ := x1.cells; go_simp; all_goals (with_reducible rfl))
    try simp only [Act.put, List.setIfInBounds_toArray, List.set_cons_zero, List.set_cons_succ]
    refine reg_take (i := 11) (v := ?qav11) rfl (by kernel_rfl) (by kernel_rfl) (by kernel_rfl) (by kernel_rfl) ?qay11 hS ?qar11
    case qay11 => (rintro wx ⟨x1, x2⟩; obtain ⟨u0, u1, u2, u3, u4⟩ := x1.cells; go_simp; all_goals (with_reducible rfl))
    try simp only [Act.put, List.setIfInBounds_toArray, List.set_cons_zero, List.set_cons_succ]
    refine reg_take (i := 12) (v := ?qav12) rfl (by kernel_rfl) (by kernel_rfl) (by kernel_rfl) (by kernel_rfl) ?qay12 hS ?qar12
    case qay12 => (rintro wx ⟨x1, x2⟩; obtain ⟨u0, u1, u2, u3, u4⟩ := x1.cells; go_simp; all_goals (with_reducible rfl))
    try simp only [Act.put, List.setIfInBounds_toArray, List.set_cons_zero, List.set_cons_succ]
    refine reg_skip (i := 13) rfl (by kernel_rfl) (by kernel_rfl) (by kernel_rfl) (by kernel_rfl) hS ?_
    try simp only [Act.put, List.setIfInBounds_toArray, List.set_cons_zero, List.set_cons_succ]
    refine reg_skip (i := 14) rfl (by kernel_rfl) (by kernel_rfl) (by kernel_rfl) (by kernel_rfl) hS ?_
    try simp only [Act.put, List.setIfInBounds_toArray, List.set_cons_zero, List.set_cons_succ]
    refine reg_skip (i := 15) rfl (by kernel_rfl) (by kernel_rfl) (by kernel_rfl) (by kernel_rfl) hS ?_
    try simp only [Act.put, List.setIfInBounds_toArray, List.set_cons_zero, List.set_cons_succ]
    refine reg_skip (i := 16) rfl (by kernel_rfl) (by kernel_rfl) (by kernel_rfl) (by kernel_rfl) hS ?_
    try simp only [Act.put, List.setIfInBounds_toArray, List.set_cons_zero, List.set_cons_succ]
    refine reg_skip (i := 17) rfl (by kernel_rfl) (by kernel_rfl) (by kernel_rfl) (by kernel_rfl) hS ?_
    try simp only [Act.put, List.setIfInBounds_toArray, List.set_cons_zero, List.set_cons_succ]
    refine reg_skip (i := 18) rfl (by kernel_rfl) (by kernel_rfl) (by kernel_rfl) (by kernel_rfl) hS ?_
    try simp only [Act.put, List.setIfInBounds_toArray, List.set_cons_zero, List.set_cons_succ]
    refine reg_skip (i := 19) rfl (by kernel_rfl) (by kernel_rfl) (by kernel_rfl) (by kernel_rfl) hS ?_
    try simp only [Act.put, List.setIfInBounds_toArray, List.set_cons_zero, List.set_cons_succ]
    refine reg_skip (i := 20) rfl (by kernel_rfl) (by kernel_rfl) (by kernel_rfl) (by kernel_rfl) hS ?_
    try simp only [Act.put, List.setIfInBounds_toArray, List.set_cons_zero, List.set_cons_succ]
    refine reg_skip (i := 21) rfl (by kernel_rfl) (by kernel_rfl) (by kernel_rfl) (by kernel_rfl) hS ?_
    try simp only [Act.put, List.setIfInBounds_toArray, List.set_cons_zero, List.set_cons_succ]
    refine reg_take (i := 22) (v := ?qav22) rfl (by kernel_rfl) (by kernel_rfl) (by kernel_rfl) (by kernel_rfl) ?qay22 hS ?qar22
    case qay22 => (rintro wx ⟨x1, x2⟩; obtain ⟨u0, u1, u2, u3, u4⟩ := x1.cells; go_simp; all_goals (with_reducible rfl))
    try simp only [Act.put, List.setIfInBounds_toArray, List.set_cons_zero, List.set_cons_succ]
    refine reg_take (i := 23) (v := ?qav23) rfl (by kernel_rfl) (by kernel_rfl) (by kernel_rfl) (by kernel_rfl) ?qay23 hS ?qar23
    case qay23 => (rintro wx ⟨x1, x2⟩; obtain ⟨u0, u1, u2, u3, u4⟩ := x1.cells; go_simp; all_goals (with_reducible rfl))
    try simp only [Act.put, List.setIfInBounds_toArray, List.set_cons_zero, List.set_cons_succ]
    refine reg_take (i := 24) (v := ?qav24) rfl (by kernel_rfl) (by kernel_rfl) (by kernel_rfl) (by kernel_rfl) ?qay24 hS ?qar24
    case qay24 => (rintro wx ⟨x1, x2⟩; obtain ⟨u0, u1, u2, u3, u4⟩ := x1.cells; go_simp; all_goals (with_reducible rfl))
    try simp only [Act.put, List.setIfInBounds_toArray, List.set_cons_zero, List.set_cons_succ]
    refine reg_take (i := 25) (v := ?qav25) rfl (by kernel_rfl) (by kernel_rfl) (by kernel_rfl) (by kernel_rfl) ?qay25 hS ?qar25
    case qay25 => (rintro wx ⟨x1, x2⟩; obtain ⟨u0, u1, u2, u3, u4⟩ := x1.cells; go_simp; all_goals (with_reducible rfl))
    try simp only [Act.put, List.setIfInBounds_toArray, List.set_cons_zero, List.set_cons_succ]
    refine reg_take (i := 26) (v := ?qav26) rfl (by kernel_rfl) (by kernel_rfl) (by kernel_rfl) (by kernel_rfl) ?qay26 hS ?qar26
    case qay26 => (rintro wx ⟨x1, x2⟩; obtain ⟨u0, u1, u2, u3, u4⟩ := x1.cells; go_simp; all_goals (with_reducible rfl))
    try simp only [Act.put, List.setIfInBounds_toArray, List.set_cons_zero, List.set_cons_succ]
    refine reg_take (i := 27) (v := ?qav27) rfl (by kernel_rfl) (by kernel_rfl) (by kernel_rfl) (by kernel_rfl) ?qay27 hS ?qar27
    case qay27 => (rintro wx ⟨x1, x2⟩; obtain ⟨u0, u1, u2, u3, u4⟩ := x1.cells; go_simp; all_goals (with_reducible rfl))
    try simp only [Act.put, List.setIfInBounds_toArray, List.set_cons_zero, List.set_cons_succ]
    refine reg_take (i := 28) (v := ?qav28) rfl (by kernel_rfl) (by kernel_rfl) (by kernel_rfl) (by kernel_rfl) ?qay28 hS ?qar28
    case qay28 => (rintro wx ⟨x1, x2⟩; obtain ⟨u0, u1, u2, u3, u4⟩ := x1.cells; go_simp; all_goals (with_reducible rfl))
    try simp only [Act.put, List.setIfInBounds_toArray, List.set_cons_zero, List.set_cons_succ]
    refine reg_take (i := 29) (v := ?qav29) rfl (by kernel_rfl) (by kernel_rfl) (by kernel_rfl) (by kernel_rfl) ?qay29 hS ?qar29
    case qay29 => (rintro wx ⟨x1, x2⟩; obtain ⟨u0, u1, u2, u3, u4⟩ := x1.cells; go_simp; all_goals (with_reducible rfl))
    try simp only [Act.put, List.setIfInBounds_toArray, List.set_cons_zero, List.set_cons_succ]
    refine reg_skip (i := 30) rfl (by kernel_rfl) (by kernel_rfl) (by kernel_rfl) (by kernel_rfl) hS ?_
    try simp only [Act.put, List.setIfInBounds_toArray, List.set_cons_zero, List.set_cons_succ]
    refine reg_skip (i := 31) rfl (by kernel_rfl) (by kernel_rfl) (by kernel_rfl) (by kernel_rfl) hS ?_
    try simp only [Act.put, List.setIfInBounds_toArray, List.set_cons_zero, List.set_cons_succ]
    refine reg_skip (i := 32) rfl (by kernel_rfl) (by kernel_rfl) (by kernel_rfl) (by kernel_rfl) hS ?_
    try simp only [Act.put, List.setIfInBounds_toArray, List.set_cons_zero, List.set_cons_succ]
    refine reg_skip (i := 33) rfl (by kernel_rfl) (by kernel_rfl) (by kernel_rfl) (by kernel_rfl) hS ?_
    try simp only [Act.put, List.setIfInBounds_toArray, List.set_cons_zero, List.set_cons_succ]
    refine reg_skip (i := 34) rfl (by kernel_rfl) (by kernel_rfl) (by kernel_rfl) (by kernel_rfl) hS ?_
    try simp only [Act.put, List.setIfInBounds_toArray, List.set_cons_zero, List.set_cons_succ]
    refine reg_skip (i := 35) rfl (by kernel_rfl) (by kernel_rfl) (by kernel_rfl) (by kernel_rfl) hS ?_
    try simp only [Act.put, List.setIfInBounds_toArray, List.set_cons_zero, List.set_cons_succ]
    refine reg_skip (i := 36) rfl (by kernel_rfl) (by kernel_rfl) (by kernel_rfl) (by kernel_rfl) hS ?_
    try simp only [Act.put, List.setIfInBounds_toArray, List.set_cons_zero, List.set_cons_succ]
    refine reg_skip (i := 37) rfl (by kernel_rfl) (by kernel_rfl) (by kernel_rfl) (by kernel_rfl) hS ?_
    try simp only [Act.put, List.setIfInBounds_toArray, List.set_cons_zero, List.set_cons_succ]
    refine reg_skip (i := 38) rfl (by kernel_rfl) (by kernel_rfl) (by kernel_rfl) (by kernel_rfl) hS ?_
    try simp only [Act.put, List.setIfInBounds_toArray, List.set_cons_zero, List.set_cons_succ]
    refine reg_skip (i := 39) rfl (by kernel_rfl) (by kernel_rfl) (by kernel_rfl) (by kernel_rfl) hS ?_
    try simp only [Act.put, List.setIfInBounds_toArray, List.set_cons_zero, List.set_cons_succ]
    refine reg_take (i := 40) (v := ?qav40) rfl (by kernel_rfl) (by kernel_rfl) (by kernel_rfl) (by kernel_rfl) ?qay40 hS ?qar40
    case qay40 => (rintro wx ⟨x1, x2⟩; obtain ⟨u0, u1, u2, u3, u4⟩ := x1.cells; go_simp; all_goals (with_reducible rfl))
    try simp only [Act.put, List.setIfInBounds_toArray, List.set_cons_zero, List.set_cons_succ]
    refine reg_take (i := 41) (v := ?qav41) rfl (by kernel_rfl) (by kernel_rfl) (by kernel_rfl) (by kernel_rfl) ?qay41 hS ?qar41
    case qay41 => (rintro wx ⟨x1, x2⟩; obtain ⟨u0, u1, u2, u3, u4⟩ := x1.cells; go_simp; all_goals (with_reducible rfl))
    try simp only [Act.put, List.setIfInBounds_toArray, List.set_cons_zero, List.set_cons_succ]
    refine reg_take (i := 42) (v := ?qav42) rfl (by kernel_rfl) (by kernel_rfl) (by kernel_rfl) (by kernel_rfl) ?qay42 hS ?qar42
    case qay42 => (rintro wx ⟨x1, x2⟩; obtain ⟨u0, u1, u2, u3, u4⟩ := x1.cells; go_simp; all_goals (with_reducible rfl))
    try simp only [Act.put, List.setIfInBounds_toArray, List.set_cons_zero, List.set_cons_succ]
    refine wpAnyH_done (by kernel_rfl) ?_ _
    refine NoPanic.normal ?_
    obtain ⟨-, hBZ⟩ := hS
    clear hK
    go_wp2
    go_ret
    exact ⟨rfl, hBZ⟩
  · have HK1 := hide hK1
    obtain ⟨hw3, hw4, -, -⟩ := HA1.out
    clear hK1
    go_wp2_with fail
    refine (all8_any a5 n5 c5 q K _ (HRK.out.carry hB8) (by omega)).mono ?_
    clear hw3 hw4
    rintro e w8' ⟨rfl, rfl⟩
    obtain ⟨w8, hw8⟩ : ∃ w8, w8 = w8' := ⟨_, rfl⟩
    rw [← hw8] at HL8 hB8 hb8 ⊢
    clear hw8
    cases hK2 : allK K q
    · have hXn : X = [one] := by rw [HX.out, HK1.out, hK2]; rfl
      have hMN : N1 = M := by rw [HM.out, hXn, HNN.out.1]; exact Nat.add_comm _ _
      subst hMN
      obtain ⟨g9, y9, z9, hrb, hcl9, how9⟩ := HO7.out.at N (by rw [List.length_append, HRLn.out, hXn]; exact Nat.lt_succ_self _)
      have h9 : (recs ++ X)[N]'(by rw [List.length_append, HRLn.out, hXn]; exact Nat.lt_succ_self _) = one := by
        simp only [hXn]
        rw [List.getElem_append_right (by rw [HRLn.out]; exact Nat.le_refl _)]
        simp
      rw [h9] at hcl9 how9
      subst hrb
      have HC9 := hide (keeps_cell _ _ _ _ hcl9 hb8)
      have HW9 := hide (how9.rd.carry hb8)
      clear hXn hK2 h9 hcl9 how9 hb8
      go_wp2
      obtain ⟨hw1, hw2, -, -⟩ := HA2.out
      have hK : Keeps (fun wx => LogAt wx B2 (.slice (some ⟨g9, 0, none⟩) N1 rc2) k2 p2 m2 ∧ wx.cell? ⟨g9, N, none⟩ = some (.slice y9 one.length z9) ∧ Rd wx (.slice y9 one.length z9) one ∧ Rd wx (.slice a3 n3 c3) one ∧ Below w.heap.size w wx) := (keeps_block _ _).and ((keeps_cell _ _).and ((keeps_rd _ _).and ((keeps_rd _ _).and (keeps_below w))))
      have hS0 : (fun wx => LogAt wx B2 (.slice (some ⟨g9, 0, none⟩) N1 rc2) k2 p2 m2 ∧ wx.cell? ⟨g9, N, none⟩ = some (.slice y9 one.length z9) ∧ Rd wx (.slice y9 one.length z9) one ∧ Rd wx (.slice a3 n3 c3) one ∧ Below w.heap.size w wx) w8 := ⟨HL8.out, HC9.out, HW9.out, HR3.out.carry hB8, hB8⟩
      clear hB8
      refine reg_begin hK (by kernel_rfl) hS0 ?_
      clear hS0
      intro hS
      generalize w8.drew = wd at *
      refine reg_take (i := 0) (v := ?qbv0) rfl (by kernel_rfl) (by kernel_rfl) (by kernel_rfl) (by kernel_rfl) ?qby0 hS ?qbr0
      case qby0 => (rintro wx ⟨x1, x2, x3, x4, x5⟩; obtain ⟨u0, u1, u2, u3, u4⟩ := x1.cells; have z1 := conv_rd (P := Try.prog) 25 5 9 Try.underlying25 Try.underlying5 Try.underlying9 x3; have z2 := conv_rd (P := Try.prog) 25 5 9 Try.underlying25 Try.underlying5 Try.underlying9 x4; go_simp; all_goals (with_reducible rfl))
      try simp only [Act.put, List.setIfInBounds_toArray, List.set_cons_zero, List.set_cons_succ]
      refine reg_take (i := 1) (v := ?qbv1) rfl (by kernel_rfl) (by kernel_rfl) (by kernel_rfl) (by kernel_rfl) ?qby1 hS ?qbr1
      case qby1 => (rintro wx ⟨x1, x2, x3, x4, x5⟩; obtain ⟨u0, u1, u2, u3, u4⟩ := x1.cells; have z1 := conv_rd (P := Try.prog) 25 5 9 Try.underlying25 Try.underlying5 Try.underlying9 x3; have z2 := conv_rd (P := Try.prog) 25 5 9 Try.underlying25 Try.underlying5 Try.underlying9 x4; go_simp; all_goals (with_reducible rfl))
      try simp only [Act.put, List.setIfInBounds_toArray, List.set_cons_zero, List.set_cons_succ]
      refine reg_take (i := 2) (v := ?qbv2) rfl (by kernel_rfl) (by kernel_rfl) (by kernel_rfl) (by kernel_rfl) ?qby2 hS ?qbr2
      case qby2 => (rintro wx ⟨x1, x2, x3, x4, x5⟩; obtain ⟨u0, u1, u2, u3, u4⟩ := x1.cells; have z1 := conv_rd (P := Try.prog) 25 5 9 Try.underlying25 Try.underlying5 Try.underlying9 x3; have z2 := conv_rd (P := Try.prog) 25 5 9 Try.underlying25 Try.underlying5 Try.underlying9 x4; go_simp; all_goals (with_reducible rfl))
      try simp only [Act.put, List.setIfInBounds_toArray, List.set_cons_zero, List.set_cons_succ]
      refine reg_take (i := 3) (v := ?qbv3) rfl (by kernel_rfl) (by kernel_rfl) (by kernel_rfl) (by kernel_rfl) ?qby3 hS ?qbr3
      case qby3 => (rintro wx ⟨x1, x2, x3, x4, x5⟩; obtain ⟨u0, u1, u2, u3, u4⟩ := x1.cells; have z1 := conv_rd (P := Try.prog) 25 5 9 Try.underlying25 Try.underlying5 Try.underlying9 x3; have z2 := conv_rd (P := Try.prog) 25 5 9 Try.underlying25 Try.underlying5 Try.underlying9 x4; go_simp; all_goals (with_reducible rfl))
      try simp only [Act.put, List.setIfInBounds_toArray, List.set_cons_zero, List.set_cons_succ]
      refine reg_take (i := 4) (v := ?qbv4) rfl (by kernel_rfl) (by kernel_rfl) (by kernel_rfl) (by kernel_rfl) ?qby4 hS ?qbr4
      case qby4 => (rintro wx ⟨x1, x2, x3, x4, x5⟩; obtain ⟨u0, u1, u2, u3, u4⟩ := x1.cells; have z1 := conv_rd (P := Try.prog) 25 5 9 Try.underlying25 Try.underlying5 Try.underlying9 x3; have z2 := conv_rd (P := Try.prog) 25 5 9 Try.underlying25 Try.underlying5 Try.underlying9 x4; go_simp; all_goals (with_reducible rfl))
      try simp only [Act.put, List.setIfInBounds_toArray, List.set_cons_zero, List.set_cons_succ]
      refine reg_take (i := 5) (v := ?qbv5) rfl (by kernel_rfl) (by kernel_rfl) (by kernel_rfl) (by kernel_rfl) ?qby5 hS ?qbr5
      case qby5 => (rintro wx ⟨x1, x2, x3, x4, x5⟩; obtain ⟨u0, u1, u2, u3, u4⟩ := x1.cells; have z1 := conv_rd (P := Try.prog) 25 5 9 Try.underlying25 Try.underlying5 Try.underlying9 x3; have z2 := conv_rd (P := Try.prog) 25 5 9 Try.underlying25 Try.underlying5 Try.underlying9 x4; go_simp; all_goals (with_reducible rfl))
      try simp only [Act.put, List.setIfInBounds_toArray, List.set_cons_zero, List.set_cons_succ]
      refine reg_take (i := 6) (v := ?qbv6) rfl (by kernel_rfl) (by kernel_rfl) (by kernel_rfl) (by kernel_rfl) ?qby6 hS ?qbr6
      case qby6 => (rintro wx ⟨x1, x2, x3, x4, x5⟩; obtain ⟨u0, u1, u2, u3, u4⟩ := x1.cells; have z1 := conv_rd (P := Try.prog) 25 5 9 Try.underlying25 Try.underlying5 Try.underlying9 x3; have z2 := conv_rd (P := Try.prog) 25 5 9 Try.underlying25 Try.underlying5 Try.underlying9 x4; go_simp; all_goals (with_reducible rfl))
      try simp only [Act.put, List.setIfInBounds_toArray, List.set_cons_zero, List.set_cons_succ]
      refine reg_take (i := 7) (v := ?qbv7) rfl (by kernel_rfl) (by kernel_rfl) (by kernel_rfl) (by kernel_rfl) ?qby7 hS ?qbr7
      case qby7 => (rintro wx ⟨x1, x2, x3, x4, x5⟩; obtain ⟨u0, u1, u2, u3, u4⟩ := x1.cells; have z1 := conv_rd (P := Try.prog) 25 5 9 Try.underlying25 Try.underlying5 Try.underlying9 x3; have z2 := conv_rd (P := Try.prog) 25 5 9 Try.underlying25 Try.underlying5 Try.underlying9 x4; go_simp; all_goals (with_reducible rfl))
      try simp only [Act.put, List.setIfInBounds_toArray, List.set_cons_zero, List.set_cons_succ]
      refine reg_take (i := 8) (v := ?qbv8) rfl (by kernel_rfl) (by kernel_rfl) (by kernel_rfl) (by kernel_rfl) ?qby8 hS ?qbr8
      case qby8 => (rintro wx ⟨x1, x2, x3, x4, x5⟩; obtain ⟨u0, u1, u2, u3, u4⟩ := x1.cells; have z1 := conv_rd (P := Try.prog) 25 5 9 Try.underlying25 Try.underlying5 Try.underlying9 x3; have z2 := conv_rd (P := Try.prog) 25 5 9 Try.underlying25 Try.underlying5 Try.underlying9 x4; go_simp; all_goals (with_reducible rfl))
      try simp only [Act.put, List.setIfInBounds_toArray, List.set_cons_zero, List.set_cons_succ]
      refine reg_take (i := 9) (v := ?qbv9) rfl (by kernel_rfl) (by kernel_rfl) (by kernel_rfl) (by kernel_rfl) ?qby9 hS ?qbr9
      case qby9 => (rintro wx ⟨x1, x2, x3, x4, x5⟩; obtain ⟨u0, u1, u2, u3, u4⟩ := x1.cells; have z1 := conv_rd (P := Try.prog) 25 5 9 Try.underlying25 Try.underlying5 Try.underlying9 x3; have z2 := conv_rd (P := Try.prog) 25 5 9 Try.underlying25 Try.underlying5 Try.underlying9 x4; go_simp; all_goals (with_reducible rfl))
      try simp only [Act.put, List.setIfInBounds_toArray, List.set_cons_zero, List.set_cons_succ]
      refine reg_take (i := 10) (v := ?qbv10) rfl (by kernel_rfl) (by kernel_rfl) (by kernel_rfl) (by kernel_rfl) ?qby10 hS ?qbr10
      case qby10 => (rintro wx ⟨x1, x2, x3, x4, x5⟩; obtain ⟨u0, u1, u2, u3, u4⟩ := x1.cells; have z1 := conv_rd (P := Try.prog) 25 5 9 Try.underlying25 Try.underlying5 Try.underlying9 x3; have z2 := conv_rd (P := Try.prog) 25 5 9 Try.underlying25 Try.underlying5 Try.underlying9 x4; go_simp; all_goals (with_reducible rfl))
      try simp only [Act.put, List.setIfInBounds_toArray, List.set_cons_zero, List.set_cons_succ]
      refine reg_take (i := 11) (v := ?qbv11) rfl (by kernel_rfl) (by kernel_rfl) (by kernel_rfl) (by kernel_rfl) ?qby11 hS ?qbr11
      case qby11 => (rintro wx ⟨x1, x2, x3, x4, x5⟩; obtain ⟨u0, u1, u2, u3, u4⟩ := x1.cells; have z1 := conv_rd (P := Try.prog) 25 5 9 Try.underlying25 Try.underlying5 Try.underlying9 x3; have z2 := conv_rd (P := Try.prog) 25 5 9 Try.underlying25 Try.underlying5 Try.underlying9 x4; go_simp; all_goals (with_reducible rfl))
      try simp only [Act.put, List.setIfInBounds_toArray, List.set_cons_zero, List.set_cons_succ]
      refine reg_take (i := 12) (v := ?qbv12) rfl (by kernel_rfl) (by kernel_rfl) (by kernel_rfl) (by kernel_rfl) ?qby12 hS ?qbr12
      case qby12 => (rintro wx ⟨x1, x2, x3, x4, x5⟩; obtain ⟨u0, u1, u2, u3, u4⟩ := x1.cells; have z1 := conv_rd (P := Try.prog) 25 5 9 Try.underlying25 Try.underlying5 Try.underlying9 x3; have z2 := conv_rd (P := Try.prog) 25 5 9 Try.underlying25 Try.underlying5 Try.underlying9 x4; go_simp; all_goals (with_reducible rfl))
      try simp only [Act.put, List.setIfInBounds_toArray, List.set_cons_zero, List.set_cons_succ]
      refine reg_take (i := 13) (v := ?qbv13) rfl (by kernel_rfl) (by kernel_rfl) (by kernel_rfl) (by kernel_rfl) ?qby13 hS ?qbr13
      case qby13 => (rintro wx ⟨x1, x2, x3, x4, x5⟩; obtain ⟨u0, u1, u2, u3, u4⟩ := x1.cells; have z1 := conv_rd (P := Try.prog) 25 5 9 Try.underlying25 Try.underlying5 Try.underlying9 x3; have z2 := conv_rd (P := Try.prog) 25 5 9 Try.underlying25 Try.underlying5 Try.underlying9 x4; go_simp; all_goals (with_reducible rfl))
      try simp only [Act.put, List.setIfInBounds_toArray, List.set_cons_zero, List.set_cons_succ]
      refine reg_take (i := 14) (v := ?qbv14) rfl (by kernel_rfl) (by kernel_rfl) (by kernel_rfl) (by kernel_rfl) ?qby14 hS ?qbr14
      case qby14 => (rintro wx ⟨x1, x2, x3, x4, x5⟩; obtain ⟨u0, u1, u2, u3, u4⟩ := x1.cells; have z1 := conv_rd (P := Try.prog) 25 5 9 Try.underlying25 Try.underlying5 Try.underlying9 x3; have z2 := conv_rd (P := Try.prog) 25 5 9 Try.underlying25 Try.underlying5 Try.underlying9 x4; go_simp; all_goals (with_reducible rfl))
      try simp only [Act.put, List.setIfInBounds_toArray, List.set_cons_zero, List.set_cons_succ]
      refine reg_take (i := 15) (v := ?qbv15) rfl (by kernel_rfl) (by kernel_rfl) (by kernel_rfl) (by kernel_rfl) ?qby15 hS ?qbr15
      case qby15 => (rintro wx ⟨x1, x2, x3, x4, x5⟩; obtain ⟨u0, u1, u2, u3, u4⟩ := x1.cells; have z1 := conv_rd (P := Try.prog) 25 5 9 Try.underlying25 Try.underlying5 Try.underlying9 x3; have z2 := conv_rd (P := Try.prog) 25 5 9 Try.underlying25 Try.underlying5 Try.underlying9 x4; go_simp; all_goals (with_reducible rfl))
      try simp only [Act.put, List.setIfInBounds_toArray, List.set_cons_zero, List.set_cons_succ]
      refine reg_take (i := 16) (v := ?qbv16) rfl (by kernel_rfl) (by kernel_rfl) (by kernel_rfl) (by kernel_rfl) ?qby16 hS ?qbr16
      case qby16 => (rintro wx ⟨x1, x2, x3, x4, x5⟩; obtain ⟨u0, u1, u2, u3, u4⟩ := x1.cells; have z1 := conv_rd (P := Try.prog) 25 5 9 Try.underlying25 Try.underlying5 Try.underlying9 x3; have z2 := conv_rd (P := Try.prog) 25 5 9 Try.underlying25 Try.underlying5 Try.underlying9 x4; go_simp; all_goals (with_reducible rfl))
      try simp only [Act.put, List.setIfInBounds_toArray, List.set_cons_zero, List.set_cons_succ]
      refine reg_take (i := 17) (v := ?qbv17) rfl (by kernel_rfl) (by kernel_rfl) (by kernel_rfl) (by kernel_rfl) ?qby17 hS ?qbr17
      case qby17 => (rintro wx ⟨x1, x2, x3, x4, x5⟩; obtain ⟨u0, u1, u2, u3, u4⟩ := x1.cells; have z1 := conv_rd (P := Try.prog) 25 5 9 Try.underlying25 Try.underlying5 Try.underlying9 x3; have z2 := conv_rd (P := Try.prog) 25 5 9 Try.underlying25 Try.underlying5 Try.underlying9 x4; go_simp; all_goals (with_reducible rfl))
      try simp only [Act.put, List.setIfInBounds_toArray, List.set_cons_zero, List.set_cons_succ]
      refine reg_take (i := 18) (v := ?qbv18) rfl (by kernel_rfl) (by kernel_rfl) (by kernel_rfl) (by kernel_rfl) ?qby18 hS ?qbr18
      case qby18 => (rintro wx ⟨x1, x2, x3, x4, x5⟩; obtain ⟨u0, u1, u2, u3, u4⟩ := x1.cells; have z1 := conv_rd (P := Try.prog) 25 5 9 Try.underlying25 Try.underlying5 Try.underlying9 x3; have z2 := conv_rd (P := Try.prog) 25 5 9 Try.underlying25 Try.underlying5 Try.underlying9 x4; go_simp; all_goals (with_reducible rfl))
      try simp only [Act.put, List.setIfInBounds_toArray, List.set_cons_zero, List.set_cons_succ]
      refine reg_take (i := 19) (v := ?qbv19) rfl (by kernel_rfl) (by kernel_rfl) (by kernel_rfl) (by kernel_rfl) ?qby19 hS ?qbr19
      case qby19 => (rintro wx ⟨x1, x2, x3, x4, x5⟩; obtain ⟨u0, u1, u2, u3, u4⟩ := x1.cells; have z1 := conv_rd (P := Try.prog) 25 5 9 Try.underlying25 Try.underlying5 Try.underlying9 x3; have z2 := conv_rd (P := Try.prog) 25 5 9 Try.underlying25 Try.underlying5 Try.underlying9 x4; go_simp; all_goals (with_reducible rfl))
      try simp only [Act.put, List.setIfInBounds_toArray, List.set_cons_zero, List.set_cons_succ]
      refine reg_take (i := 20) (v := ?qbv20) rfl (by kernel_rfl) (by kernel_rfl) (by kernel_rfl) (by kernel_rfl) ?qby20 hS ?qbr20
      case qby20 => (rintro wx ⟨x1, x2, x3, x4, x5⟩; obtain ⟨u0, u1, u2, u3, u4⟩ := x1.cells; have z1 := conv_rd (P := Try.prog) 25 5 9 Try.underlying25 Try.underlying5 Try.underlying9 x3; have z2 := conv_rd (P := Try.prog) 25 5 9 Try.underlying25 Try.underlying5 Try.underlying9 x4; go_simp; all_goals (with_reducible rfl))
      try simp only [Act.put, List.setIfInBounds_toArray, List.set_cons_zero, List.set_cons_succ]
      refine reg_take (i := 21) (v := ?qbv21) rfl (by kernel_rfl) (by kernel_rfl) (by kernel_rfl) (by kernel_rfl) ?qby21 hS ?qbr21
      case qby21 => (rintro wx ⟨x1, x2, x3, x4, x5⟩; obtain ⟨u0, u1, u2, u3, u4⟩ := x1.cells; have z1 := conv_rd (P := Try.prog) 25 5 9 Try.underlying25 Try.underlying5 Try.underlying9 x3; have z2 := conv_rd (P := Try.prog) 25 5 9 Try.underlying25 Try.underlying5 Try.underlying9 x4; go_simp; all_goals (with_reducible rfl))
      try simp only [Act.put, List.setIfInBounds_toArray, List.set_cons_zero, List.set_cons_succ]
      refine reg_take (i := 22) (v := ?qbv22) rfl (by kernel_rfl) (by kernel_rfl) (by kernel_rfl) (by kernel_rfl) ?qby22 hS ?qbr22
      case qby22 => (rintro wx ⟨x1, x2, x3, x4, x5⟩; obtain ⟨u0, u1, u2, u3, u4⟩ := x1.cells; have z1 := conv_rd (P := Try.prog) 25 5 9 Try.underlying25 Try.underlying5 Try.underlying9 x3; have z2 := conv_rd (P := Try.prog) 25 5 9 Try.underlying25 Try.underlying5 Try.underlying9 x4; go_simp; all_goals (with_reducible rfl))
      try simp only [Act.put, List.setIfInBounds_toArray, List.set_cons_zero, List.set_cons_succ]
      refine reg_take (i := 23) (v := ?qbv23) rfl (by kernel_rfl) (by kernel_rfl) (by kernel_rfl) (by kernel_rfl) ?qby23 hS ?qbr23
      case qby23 => (rintro wx ⟨x1, x2, x3, x4, x5⟩; obtain ⟨u0, u1, u2, u3, u4⟩ := x1.cells; have z1 := conv_rd (P := Try.prog) 25 5 9 Try.underlying25 Try.underlying5 Try.underlying9 x3; have z2 := conv_rd (P := Try.prog) 25 5 9 Try.underlying25 Try.underlying5 Try.underlying9 x4; go_simp; all_goals (with_reducible rfl))
      try simp only [Act.put, List.setIfInBounds_toArray, List.set_cons_zero, List.set_cons_succ]
      refine reg_take (i := 24) (v := ?qbv24) rfl (by kernel_rfl) (by kernel_rfl) (by kernel_rfl) (by kernel_rfl) ?qby24 hS ?qbr24
      case qby24 => (rintro wx ⟨x1, x2, x3, x4, x5⟩; obtain ⟨u0, u1, u2, u3, u4⟩ := x1.cells; have z1 := conv_rd (P := Try.prog) 25 5 9 Try.underlying25 Try.underlying5 Try.underlying9 x3; have z2 := conv_rd (P := Try.prog) 25 5 9 Try.underlying25 Try.underlying5 Try.underlying9 x4; go_simp; all_goals (with_reducible rfl))
      try simp only [Act.put, List.setIfInBounds_toArray, List.set_cons_zero, List.set_cons_succ]
      refine reg_take (i := 25) (v := ?qbv25) rfl (by kernel_rfl) (by kernel_rfl) (by kernel_rfl) (by kernel_rfl) ?qby25 hS ?qbr25
      case qby25 => (rintro wx ⟨x1, x2, x3, x4, x5⟩; obtain ⟨u0, u1, u2, u3, u4⟩ := x1.cells; have z1 := conv_rd (P := Try.prog) 25 5 9 Try.underlying25 Try.underlying5 Try.underlying9 x3; have z2 := conv_rd (P := Try.prog) 25 5 9 Try.underlying25 Try.underlying5 Try.underlying9 x4; go_simp; all_goals (with_reducible rfl))
      try simp only [Act.put, List.setIfInBounds_toArray, List.set_cons_zero, List.set_cons_succ]
      refine reg_take (i := 26) (v := ?qbv26) rfl (by kernel_rfl) (by kernel_rfl) (by kernel_rfl) (by kernel_rfl) ?qby26 hS ?qbr26
      case qby26 => (rintro wx ⟨x1, x2, x3, x4, x5⟩; obtain ⟨u0, u1, u2, u3, u4⟩ := x1.cells; have z1 := conv_rd (P := Try.prog) 25 5 9 Try.underlying25 Try.underlying5 Try.underlying9 x3; have z2 := conv_rd (P := Try.prog) 25 5 9 Try.underlying25 Try.underlying5 Try.underlying9 x4; go_simp; all_goals (with_reducible rfl))
      try simp only [Act.put, List.setIfInBounds_toArray, List.set_cons_zero, List.set_cons_succ]
      refine reg_take (i := 27) (v := ?qbv27) rfl (by kernel_rfl) (by kernel_rfl) (by kernel_rfl) (by kernel_rfl) ?qby27 hS ?qbr27
      case qby27 => (rintro wx ⟨x1, x2, x3, x4, x5⟩; obtain ⟨u0, u1, u2, u3, u4⟩ := x1.cells; have z1 := conv_rd (P := Try.prog) 25 5 9 Try.underlying25 Try.underlying5 Try.underlying9 x3; have z2 := conv_rd (P := Try.prog) 25 5 9 Try.underlying25 Try.underlying5 Try.underlying9 x4; go_simp; all_goals (with_reducible rfl))
      try simp only [Act.put, List.setIfInBounds_toArray, List.set_cons_zero, List.set_cons_succ]
      refine reg_take (i := 28) (v := ?qbv28) rfl (by kernel_rfl) (by kernel_rfl) (by kernel_rfl) (by kernel_rfl) ?qby28 hS ?qbr28
      case qby28 => (rintro wx ⟨x1, x2, x3, x4, x5⟩; obtain ⟨u0, u1, u2, u3, u4⟩ := x1.cells; have z1 := conv_rd (P := Try.prog) 25 5 9 Try.underlying25 Try.underlying5 Try.underlying9 x3; have z2 := conv_rd (P := Try.prog) 25 5 9 Try.underlying25 Try.underlying5 Try.underlying9 x4; go_simp; all_goals (with_reducible rfl))
      try simp only [Act.put, List.setIfInBounds_toArray, List.set_cons_zero, List.set_cons_succ]
      refine reg_take (i := 29) (v := ?qbv29) rfl (by kernel_rfl) (by kernel_rfl) (by kernel_rfl) (by kernel_rfl) ?qby29 hS ?qbr29
      case qby29 => (rintro wx ⟨x1, x2, x3, x4, x5⟩; obtain ⟨u0, u1, u2, u3, u4⟩ := x1.cells; have z1 := conv_rd (P := Try.prog) 25 5 9 Try.underlying25 Try.underlying5 Try.underlying9 x3; have z2 := conv_rd (P := Try.prog) 25 5 9 Try.underlying25 Try.underlying5 Try.underlying9 x4; go_simp; all_goals (with_reducible rfl))
      try simp only [Act.put, List.setIfInBounds_toArray, List.set_cons_zero, List.set_cons_succ]
      refine reg_skip (i := 30) rfl (by kernel_rfl) (by kernel_rfl) (by kernel_rfl) (by kernel_rfl) hS ?_
      try simp only [Act.put, List.setIfInBounds_toArray, List.set_cons_zero, List.set_cons_succ]
      refine reg_skip (i := 31) rfl (by kernel_rfl) (by kernel_rfl) (by kernel_rfl) (by kernel_rfl) hS ?_
      try simp only [Act.put, List.setIfInBounds_toArray, List.set_cons_zero, List.set_cons_succ]
      refine reg_skip (i := 32) rfl (by kernel_rfl) (by kernel_rfl) (by kernel_rfl) (by kernel_rfl) hS ?_
      try simp only [Act.put, List.setIfInBounds_toArray, List.set_cons_zero, List.set_cons_succ]
      refine reg_skip (i := 33) rfl (by kernel_rfl) (by kernel_rfl) (by kernel_rfl) (by kernel_rfl) hS ?_
      try simp only [Act.put, List.setIfInBounds_toArray, List.set_cons_zero, List.set_cons_succ]
      refine reg_skip (i := 34) rfl (by kernel_rfl) (by kernel_rfl) (by kernel_rfl) (by kernel_rfl) hS ?_
      try simp only [Act.put, List.setIfInBounds_toArray, List.set_cons_zero, List.set_cons_succ]
      refine reg_skip (i := 35) rfl (by kernel_rfl) (by kernel_rfl) (by kernel_rfl) (by kernel_rfl) hS ?_
      try simp only [Act.put, List.setIfInBounds_toArray, List.set_cons_zero, List.set_cons_succ]
      refine reg_skip (i := 36) rfl (by kernel_rfl) (by kernel_rfl) (by kernel_rfl) (by kernel_rfl) hS ?_
      try simp only [Act.put, List.setIfInBounds_toArray, List.set_cons_zero, List.set_cons_succ]
      refine reg_skip (i := 37) rfl (by kernel_rfl) (by kernel_rfl) (by kernel_rfl) (by kernel_rfl) hS ?_
      try simp only [Act.put, List.setIfInBounds_toArray, List.set_cons_zero, List.set_cons_succ]
      refine reg_skip (i := 38) rfl (by kernel_rfl) (by kernel_rfl) (by kernel_rfl) (by kernel_rfl) hS ?_
      try simp only [Act.put, List.setIfInBounds_toArray, List.set_cons_zero, List.set_cons_succ]
      refine reg_skip (i := 39) rfl (by kernel_rfl) (by kernel_rfl) (by kernel_rfl) (by kernel_rfl) hS ?_
      try simp only [Act.put, List.setIfInBounds_toArray, List.set_cons_zero, List.set_cons_succ]
      refine reg_take (i := 40) (v := ?qbv40) rfl (by kernel_rfl) (by kernel_rfl) (by kernel_rfl) (by kernel_rfl) ?qby40 hS ?qbr40
      case qby40 => (rintro wx ⟨x1, x2, x3, x4, x5⟩; obtain ⟨u0, u1, u2, u3, u4⟩ := x1.cells; have z1 := conv_rd (P := Try.prog) 25 5 9 Try.underlying25 Try.underlying5 Try.underlying9 x3; have z2 := conv_rd (P := Try.prog) 25 5 9 Try.underlying25 Try.underlying5 Try.underlying9 x4; go_simp; all_goals (with_reducible rfl))
      try simp only [Act.put, List.setIfInBounds_toArray, List.set_cons_zero, List.set_cons_succ]
      refine reg_take (i := 41) (v := ?qbv41) rfl (by kernel_rfl) (by kernel_rfl) (by kernel_rfl) (by kernel_rfl) ?qby41 hS ?qbr41
      case qby41 => (rintro wx ⟨x1, x2, x3, x4, x5⟩; obtain ⟨u0, u1, u2, u3, u4⟩ := x1.cells; have z1 := conv_rd (P := Try.prog) 25 5 9 Try.underlying25 Try.underlying5 Try.underlying9 x3; have z2 := conv_rd (P := Try.prog) 25 5 9 Try.underlying25 Try.underlying5 Try.underlying9 x4; go_simp; all_goals (with_reducible rfl))
      try simp only [Act.put, List.setIfInBounds_toArray, List.set_cons_zero, List.set_cons_succ]
      refine reg_take (i := 42) (v := ?qbv42) rfl (by kernel_rfl) (by kernel_rfl) (by kernel_rfl) (by kernel_rfl) ?qby42 hS ?qbr42
      case qby42 => (rintro wx ⟨x1, x2, x3, x4, x5⟩; obtain ⟨u0, u1, u2, u3, u4⟩ := x1.cells; have z1 := conv_rd (P := Try.prog) 25 5 9 Try.underlying25 Try.underlying5 Try.underlying9 x3; have z2 := conv_rd (P := Try.prog) 25 5 9 Try.underlying25 Try.underlying5 Try.underlying9 x4; go_simp; all_goals (with_reducible rfl))
      try simp only [Act.put, List.setIfInBounds_toArray, List.set_cons_zero, List.set_cons_succ]
      refine wpAnyH_done (by kernel_rfl) ?_ _
      refine NoPanic.normal ?_
      obtain ⟨-, -, -, -, hBZ⟩ := hS
      clear hK
      go_wp2
      go_ret
      exact ⟨rfl, hBZ⟩
    · have hXn : X = [one, two] := by rw [HX.out, HK1.out, hK2]; rfl
      have hMN : N2 = M := by rw [HM.out, hXn, HNN.out.2.1]; exact Nat.add_comm _ _
      subst hMN
      have hN1e : N1 = N + 1 := by rw [HNN.out.1]; exact Nat.add_comm _ _
      obtain ⟨g9, y9, z9, hrb, hcl9, how9⟩ := HO7.out.at N (by rw [List.length_append, HRLn.out, hXn]; show N < N + 2; omega)
      have h9 : (recs ++ X)[N]'(by rw [List.length_append, HRLn.out, hXn]; show N < N + 2; omega) = one := by
        simp only [hXn]
        rw [List.getElem_append_right (by rw [HRLn.out]; exact Nat.le_refl _)]
        simp [HRLn.out]
      rw [h9] at hcl9 how9
      obtain ⟨g10, y10, z10, hrb2, hcl10, how10⟩ := HO7.out.at N1 (by rw [List.length_append, HRLn.out, hXn, hN1e]; show N + 1 < N + 2; omega)
      have h10 : (recs ++ X)[N1]'(by rw [List.length_append, HRLn.out, hXn, hN1e]; show N + 1 < N + 2; omega) = two := by
        simp only [hXn, hN1e]
        rw [List.getElem_append_right (by rw [HRLn.out]; omega)]
        simp [HRLn.out]
      rw [h10] at hcl10 how10
      subst hrb
      cases hrb2
      have HC9 := hide (keeps_cell _ _ _ _ hcl9 hb8)
      have HW9 := hide (how9.rd.carry hb8)
      have HC10 := hide (keeps_cell _ _ _ _ hcl10 hb8)
      have HW10 := hide (how10.rd.carry hb8)
      obtain ⟨hw1, hw2, -, -⟩ := HA2.out
      clear hXn hK2 h9 hcl9 how9 hb8 h10 hcl10 how10 hN1e
      go_wp2
      obtain ⟨hw3, hw4, -, -⟩ := HA1.out
      have hK : Keeps (fun wx => LogAt wx B2 (.slice (some ⟨g9, 0, none⟩) N2 rc2) k2 p2 m2 ∧ wx.cell? ⟨g9, N, none⟩ = some (.slice y9 one.length z9) ∧ Rd wx (.slice y9 one.length z9) one ∧ Rd wx (.slice a3 n3 c3) one ∧ wx.cell? ⟨g9, N1, none⟩ = some (.slice y10 two.length z10) ∧ Rd wx (.slice y10 two.length z10) two ∧ Rd wx (.slice a4 n4 c4) two ∧ Below w.heap.size w wx) := (keeps_block _ _).and ((keeps_cell _ _).and ((keeps_rd _ _).and ((keeps_rd _ _).and ((keeps_cell _ _).and ((keeps_rd _ _).and ((keeps_rd _ _).and (keeps_below w)))))))
      have hS0 : (fun wx => LogAt wx B2 (.slice (some ⟨g9, 0, none⟩) N2 rc2) k2 p2 m2 ∧ wx.cell? ⟨g9, N, none⟩ = some (.slice y9 one.length z9) ∧ Rd wx (.slice y9 one.length z9) one ∧ Rd wx (.slice a3 n3 c3) one ∧ wx.cell? ⟨g9, N1, none⟩ = some (.slice y10 two.length z10) ∧ Rd wx (.slice y10 two.length z10) two ∧ Rd wx (.slice a4 n4 c4) two ∧ Below w.heap.size w wx) w8 := ⟨HL8.out, HC9.out, HW9.out, HR3.out.carry hB8, HC10.out, HW10.out, HR4.out.carry hB8, hB8⟩
      clear hB8
      refine reg_begin hK (by kernel_rfl) hS0 ?_
      clear hS0
      intro hS
      generalize w8.drew = wd at *
      refine reg_take (i := 0) (v := ?qcv0) rfl (by kernel_rfl) (by kernel_rfl) (by kernel_rfl) (by kernel_rfl) ?qcy0 hS ?qcr0
      case qcy0 => (rintro wx ⟨x1, x2, x3, x4, x5, x6, x7, x8⟩; obtain ⟨u0, u1, u2, u3, u4⟩ := x1.cells; have z0 := conv_rd (P := Try.prog) 25 5 9 Try.underlying25 Try.underlying5 Try.underlying9 x3; have z1 := conv_rd (P := Try.prog) 25 5 9 Try.underlying25 Try.underlying5 Try.underlying9 x4; have z2 := conv_rd (P := Try.prog) 25 5 9 Try.underlying25 Try.underlying5 Try.underlying9 x6; have z3 := conv_rd (P := Try.prog) 25 5 9 Try.underlying25 Try.underlying5 Try.underlying9 x7; go_simp; all_goals (with_reducible rfl))
      try simp only [Act.put, List.setIfInBounds_toArray, List.set_cons_zero, List.set_cons_succ]
      refine reg_take (i := 1) (v := ?qcv1) rfl (by kernel_rfl) (by kernel_rfl) (by kernel_rfl) (by kernel_rfl) ?qcy1 hS ?qcr1
      case qcy1 => (rintro wx ⟨x1, x2, x3, x4, x5, x6, x7, x8⟩; obtain ⟨u0, u1, u2, u3, u4⟩ := x1.cells; have z0 := conv_rd (P := Try.prog) 25 5 9 Try.underlying25 Try.underlying5 Try.underlying9 x3; have z1 := conv_rd (P := Try.prog) 25 5 9 Try.underlying25 Try.underlying5 Try.underlying9 x4; have z2 := conv_rd (P := Try.prog) 25 5 9 Try.underlying25 Try.underlying5 Try.underlying9 x6; have z3 := conv_rd (P := Try.prog) 25 5 9 Try.underlying25 Try.underlying5 Try.underlying9 x7; go_simp; all_goals (with_reducible rfl))
      try simp only [Act.put, List.setIfInBounds_toArray, List.set_cons_zero, List.set_cons_succ]
      refine reg_take (i := 2) (v := ?qcv2) rfl (by kernel_rfl) (by kernel_rfl) (by kernel_rfl) (by kernel_rfl) ?qcy2 hS ?qcr2
      case qcy2 => (rintro wx ⟨x1, x2, x3, x4, x5, x6, x7, x8⟩; obtain ⟨u0, u1, u2, u3, u4⟩ := x1.cells; have z0 := conv_rd (P := Try.prog) 25 5 9 Try.underlying25 Try.underlying5 Try.underlying9 x3; have z1 := conv_rd (P := Try.prog) 25 5 9 Try.underlying25 Try.underlying5 Try.underlying9 x4; have z2 := conv_rd (P := Try.prog) 25 5 9 Try.underlying25 Try.underlying5 Try.underlying9 x6; have z3 := conv_rd (P := Try.prog) 25 5 9 Try.underlying25 Try.underlying5 Try.underlying9 x7; go_simp; all_goals (with_reducible rfl))
      try simp only [Act.put, List.setIfInBounds_toArray, List.set_cons_zero, List.set_cons_succ]
      refine reg_take (i := 3) (v := ?qcv3) rfl (by kernel_rfl) (by kernel_rfl) (by kernel_rfl) (by kernel_rfl) ?qcy3 hS ?qcr3
      case qcy3 => (rintro wx ⟨x1, x2, x3, x4, x5, x6, x7, x8⟩; obtain ⟨u0, u1, u2, u3, u4⟩ := x1.cells; have z0 := conv_rd (P := Try.prog) 25 5 9 Try.underlying25 Try.underlying5 Try.underlying9 x3; have z1 := conv_rd (P := Try.prog) 25 5 9 Try.underlying25 Try.underlying5 Try.underlying9 x4; have z2 := conv_rd (P := Try.prog) 25 5 9 Try.underlying25 Try.underlying5 Try.underlying9 x6; have z3 := conv_rd (P := Try.prog) 25 5 9 Try.underlying25 Try.underlying5 Try.underlying9 x7; go_simp; all_goals (with_reducible rfl))
      try simp only [Act.put, List.setIfInBounds_toArray, List.set_cons_zero, List.set_cons_succ]
      refine reg_take (i := 4) (v := ?qcv4) rfl (by kernel_rfl) (by kernel_rfl) (by kernel_rfl) (by kernel_rfl) ?qcy4 hS ?qcr4
      case qcy4 => (rintro wx ⟨x1, x2, x3, x4, x5, x6, x7, x8⟩; obtain ⟨u0, u1, u2, u3, u4⟩ := x1.cells; have z0 := conv_rd (P := Try.prog) 25 5 9 Try.underlying25 Try.underlying5 Try.underlying9 x3; have z1 := conv_rd (P := Try.prog) 25 5 9 Try.underlying25 Try.underlying5 Try.underlying9 x4; have z2 := conv_rd (P := Try.prog) 25 5 9 Try.underlying25 Try.underlying5 Try.underlying9 x6; have z3 := conv_rd (P := Try.prog) 25 5 9 Try.underlying25 Try.underlying5 Try.underlying9 x7; go_simp; all_goals (with_reducible rfl))
      try simp only [Act.put, List.setIfInBounds_toArray, List.set_cons_zero, List.set_cons_succ]
      refine reg_take (i := 5) (v := ?qcv5) rfl (by kernel_rfl) (by kernel_rfl) (by kernel_rfl) (by kernel_rfl) ?qcy5 hS ?qcr5
      case qcy5 => (rintro wx ⟨x1, x2, x3, x4, x5, x6, x7, x8⟩; obtain ⟨u0, u1, u2, u3, u4⟩ := x1.cells; have z0 := conv_rd (P := Try.prog) 25 5 9 Try.underlying25 Try.underlying5 Try.underlying9 x3; have z1 := conv_rd (P := Try.prog) 25 5 9 Try.underlying25 Try.underlying5 Try.underlying9 x4; have z2 := conv_rd (P := Try.prog) 25 5 9 Try.underlying25 Try.underlying5 Try.underlying9 x6; have z3 := conv_rd (P := Try.prog) 25 5 9 Try.underlying25 Try.underlying5 Try.underlying9 x7; go_simp; all_goals (with_reducible rfl))
      try simp only [Act.put, List.setIfInBounds_toArray, List.set_cons_zero, List.set_cons_succ]
      refine reg_take (i := 6) (v := ?qcv6) rfl (by kernel_rfl) (by kernel_rfl) (by kernel_rfl) (by kernel_rfl) ?qcy6 hS ?qcr6
      case qcy6 => (rintro wx ⟨x1, x2, x3, x4, x5, x6, x7, x8⟩; obtain ⟨u0, u1, u2, u3, u4⟩ := x1.cells; have z0 := conv_rd (P := Try.prog) 25 5 9 Try.underlying25 Try.underlying5 Try.underlying9 x3; have z1 := conv_rd (P := Try.prog) 25 5 9 Try.underlying25 Try.underlying5 Try.underlying9 x4; have z2 := conv_rd (P := Try.prog) 25 5 9 Try.underlying25 Try.underlying5 Try.underlying9 x6; have z3 := conv_rd (P := Try.prog) 25 5 9 Try.underlying25 Try.underlying5 Try.underlying9 x7; go_simp; all_goals (with_reducible rfl))
      try simp only [Act.put, List.setIfInBounds_toArray, List.set_cons_zero, List.set_cons_succ]
      refine reg_take (i := 7) (v := ?qcv7) rfl (by kernel_rfl) (by kernel_rfl) (by kernel_rfl) (by kernel_rfl) ?qcy7 hS ?qcr7
      case qcy7 => (rintro wx ⟨x1, x2, x3, x4, x5, x6, x7, x8⟩; obtain ⟨u0, u1, u2, u3, u4⟩ := x1.cells; have z0 := conv_rd (P := Try.prog) 25 5 9 Try.underlying25 Try.underlying5 Try.underlying9 x3; have z1 := conv_rd (P := Try.prog) 25 5 9 Try.underlying25 Try.underlying5 Try.underlying9 x4; have z2 := conv_rd (P := Try.prog) 25 5 9 Try.underlying25 Try.underlying5 Try.underlying9 x6; have z3 := conv_rd (P := Try.prog) 25 5 9 Try.underlying25 Try.underlying5 Try.underlying9 x7; go_simp; all_goals (with_reducible rfl))
      try simp only [Act.put, List.setIfInBounds_toArray, List.set_cons_zero, List.set_cons_succ]
      refine reg_take (i := 8) (v := ?qcv8) rfl (by kernel_rfl) (by kernel_rfl) (by kernel_rfl) (by kernel_rfl) ?qcy8 hS ?qcr8
      case qcy8 => (rintro wx ⟨x1, x2, x3, x4, x5, x6, x7, x8⟩; obtain ⟨u0, u1, u2, u3, u4⟩ := x1.cells; have z0 := conv_rd (P := Try.prog) 25 5 9 Try.underlying25 Try.underlying5 Try.underlying9 x3; have z1 := conv_rd (P := Try.prog) 25 5 9 Try.underlying25 Try.underlying5 Try.underlying9 x4; have z2 := conv_rd (P := Try.prog) 25 5 9 Try.underlying25 Try.underlying5 Try.underlying9 x6; have z3 := conv_rd (P := Try.prog) 25 5 9 Try.underlying25 Try.underlying5 Try.underlying9 x7; go_simp; all_goals (with_reducible rfl))
      try simp only [Act.put, List.setIfInBounds_toArray, List.set_cons_zero, List.set_cons_succ]
      refine reg_take (i := 9) (v := ?qcv9) rfl (by kernel_rfl) (by kernel_rfl) (by kernel_rfl) (by kernel_rfl) ?qcy9 hS ?qcr9
      case qcy9 => (rintro wx ⟨x1, x2, x3, x4, x5, x6, x7, x8⟩; obtain ⟨u0, u1, u2, u3, u4⟩ := x1.cells; have z0 := conv_rd (P := Try.prog) 25 5 9 Try.underlying25 Try.underlying5 Try.underlying9 x3; have z1 := conv_rd (P := Try.prog) 25 5 9 Try.underlying25 Try.underlying5 Try.underlying9 x4; have z2 := conv_rd (P := Try.prog) 25 5 9 Try.underlying25 Try.underlying5 Try.underlying9 x6; have z3 := conv_rd (P := Try.prog) 25 5 9 Try.underlying25 Try.underlying5 Try.underlying9 x7; go_simp; all_goals (with_reducible rfl))
      try simp only [Act.put, List.setIfInBounds_toArray, List.set_cons_zero, List.set_cons_succ]
      refine reg_take (i := 10) (v := ?qcv10) rfl (by kernel_rfl) (by kernel_rfl) (by kernel_rfl) (by kernel_rfl) ?qcy10 hS ?qcr10
      case qcy10 => (rintro wx ⟨x1, x2, x3, x4, x5, x6, x7, x8⟩; obtain ⟨u0, u1, u2, u3, u4⟩ := x1.cells; have z0 := conv_rd (P := Try.prog) 25 5 9 Try.underlying25 Try.underlying5 Try.underlying9 x3; have z1 := conv_rd (P := Try.prog) 25 5 9 Try.underlying25 Try.underlying5 Try.underlying9 x4; have z2 := conv_rd (P := Try.prog) 25 5 9 Try.underlying25 Try.underlying5 Try.underlying9 x6; have z3 := conv_rd (P := Try.prog) 25 5 9 Try.underlying25 Try.underlying5 Try.underlying9 x7; go_simp; all_goals (with_reducible rfl))
      try simp only [Act.put, List.setIfInBounds_toArray, List.set_cons_zero, List.set_cons_succ]
      refine reg_take (i := 11) (v := ?qcv11) rfl (by kernel_rfl) (by kernel_rfl) (by kernel_rfl) (by kernel_rfl) ?qcy11 hS ?qcr11
      case qcy11 => (rintro wx ⟨x1, x2, x3, x4, x5, x6, x7, x8⟩; obtain ⟨u0, u1, u2, u3, u4⟩ := x1.cells; have z0 := conv_rd (P := Try.prog) 25 5 9 Try.underlying25 Try.underlying5 Try.underlying9 x3; have z1 := conv_rd (P := Try.prog) 25 5 9 Try.underlying25 Try.underlying5 Try.underlying9 x4; have z2 := conv_rd (P := Try.prog) 25 5 9 Try.underlying25 Try.underlying5 Try.underlying9 x6; have z3 := conv_rd (P := Try.prog) 25 5 9 Try.underlying25 Try.underlying5 Try.underlying9 x7; go_simp; all_goals (with_reducible rfl))
      try simp only [Act.put, List.setIfInBounds_toArray, List.set_cons_zero, List.set_cons_succ]
      refine reg_take (i := 12) (v := ?qcv12) rfl (by kernel_rfl) (by kernel_rfl) (by kernel_rfl) (by kernel_rfl) ?qcy12 hS ?qcr12
      case qcy12 => (rintro wx ⟨x1, x2, x3, x4, x5, x6, x7, x8⟩; obtain ⟨u0, u1, u2, u3, u4⟩ := x1.cells; have z0 := conv_rd (P := Try.prog) 25 5 9 Try.underlying25 Try.underlying5 Try.underlying9 x3; have z1 := conv_rd (P := Try.prog) 25 5 9 Try.underlying25 Try.underlying5 Try.underlying9 x4; have z2 := conv_rd (P := Try.prog) 25 5 9 Try.underlying25 Try.underlying5 Try.underlying9 x6; have z3 := conv_rd (P := Try.prog) 25 5 9 Try.underlying25 Try.underlying5 Try.underlying9 x7; go_simp; all_goals (with_reducible rfl))
      try simp only [Act.put, List.setIfInBounds_toArray, List.set_cons_zero, List.set_cons_succ]
      refine reg_take (i := 13) (v := ?qcv13) rfl (by kernel_rfl) (by kernel_rfl) (by kernel_rfl) (by kernel_rfl) ?qcy13 hS ?qcr13
      case qcy13 => (rintro wx ⟨x1, x2, x3, x4, x5, x6, x7, x8⟩; obtain ⟨u0, u1, u2, u3, u4⟩ := x1.cells; have z0 := conv_rd (P := Try.prog) 25 5 9 Try.underlying25 Try.underlying5 Try.underlying9 x3; have z1 := conv_rd (P := Try.prog) 25 5 9 Try.underlying25 Try.underlying5 Try.underlying9 x4; have z2 := conv_rd (P := Try.prog) 25 5 9 Try.underlying25 Try.underlying5 Try.underlying9 x6; have z3 := conv_rd (P := Try.prog) 25 5 9 Try.underlying25 Try.underlying5 Try.underlying9 x7; go_simp; all_goals (with_reducible rfl))
      try simp only [Act.put, List.setIfInBounds_toArray, List.set_cons_zero, List.set_cons_succ]
      refine reg_take (i := 14) (v := ?qcv14) rfl (by kernel_rfl) (by kernel_rfl) (by kernel_rfl) (by kernel_rfl) ?qcy14 hS ?qcr14
      case qcy14 => (rintro wx ⟨x1, x2, x3, x4, x5, x6, x7, x8⟩; obtain ⟨u0, u1, u2, u3, u4⟩ := x1.cells; have z0 := conv_rd (P := Try.prog) 25 5 9 Try.underlying25 Try.underlying5 Try.underlying9 x3; have z1 := conv_rd (P := Try.prog) 25 5 9 Try.underlying25 Try.underlying5 Try.underlying9 x4; have z2 := conv_rd (P := Try.prog) 25 5 9 Try.underlying25 Try.underlying5 Try.underlying9 x6; have z3 := conv_rd (P := Try.prog) 25 5 9 Try.underlying25 Try.underlying5 Try.underlying9 x7; go_simp; all_goals (with_reducible rfl))
      try simp only [Act.put, List.setIfInBounds_toArray, List.set_cons_zero, List.set_cons_succ]
      refine reg_take (i := 15) (v := ?qcv15) rfl (by kernel_rfl) (by kernel_rfl) (by kernel_rfl) (by kernel_rfl) ?qcy15 hS ?qcr15
      case qcy15 => (rintro wx ⟨x1, x2, x3, x4, x5, x6, x7, x8⟩; obtain ⟨u0, u1, u2, u3, u4⟩ := x1.cells; have z0 := conv_rd (P := Try.prog) 25 5 9 Try.underlying25 Try.underlying5 Try.underlying9 x3; have z1 := conv_rd (P := Try.prog) 25 5 9 Try.underlying25 Try.underlying5 Try.underlying9 x4; have z2 := conv_rd (P := Try.prog) 25 5 9 Try.underlying25 Try.underlying5 Try.underlying9 x6; have z3 := conv_rd (P := Try.prog) 25 5 9 Try.underlying25 Try.underlying5 Try.underlying9 x7; go_simp; all_goals (with_reducible rfl))
      try simp only [Act.put, List.setIfInBounds_toArray, List.set_cons_zero, List.set_cons_succ]
      refine reg_take (i := 16) (v := ?qcv16) rfl (by kernel_rfl) (by kernel_rfl) (by kernel_rfl) (by kernel_rfl) ?qcy16 hS ?qcr16
      case qcy16 => (rintro wx ⟨x1, x2, x3, x4, x5, x6, x7, x8⟩; obtain ⟨u0, u1, u2, u3, u4⟩ := x1.cells; have z0 := conv_rd (P := Try.prog) 25 5 9 Try.underlying25 Try.underlying5 Try.underlying9 x3; have z1 := conv_rd (P := Try.prog) 25 5 9 Try.underlying25 Try.underlying5 Try.underlying9 x4; have z2 := conv_rd (P := Try.prog) 25 5 9 Try.underlying25 Try.underlying5 Try.underlying9 x6; have z3 := conv_rd (P := Try.prog) 25 5 9 Try.underlying25 Try.underlying5 Try.underlying9 x7; go_simp; all_goals (with_reducible rfl))
      try simp only [Act.put, List.setIfInBounds_toArray, List.set_cons_zero, List.set_cons_succ]
      refine reg_take (i := 17) (v := ?qcv17) rfl (by kernel_rfl) (by kernel_rfl) (by kernel_rfl) (by kernel_rfl) ?qcy17 hS ?qcr17
      case qcy17 => (rintro wx ⟨x1, x2, x3, x4, x5, x6, x7, x8⟩; obtain ⟨u0, u1, u2, u3, u4⟩ := x1.cells; have z0 := conv_rd (P := Try.prog) 25 5 9 Try.underlying25 Try.underlying5 Try.underlying9 x3; have z1 := conv_rd (P := Try.prog) 25 5 9 Try.underlying25 Try.underlying5 Try.underlying9 x4; have z2 := conv_rd (P := Try.prog) 25 5 9 Try.underlying25 Try.underlying5 Try.underlying9 x6; have z3 := conv_rd (P := Try.prog) 25 5 9 Try.underlying25 Try.underlying5 Try.underlying9 x7; go_simp; all_goals (with_reducible rfl))
      try simp only [Act.put, List.setIfInBounds_toArray, List.set_cons_zero, List.set_cons_succ]
      refine reg_take (i := 18) (v := ?qcv18) rfl (by kernel_rfl) (by kernel_rfl) (by kernel_rfl) (by kernel_rfl) ?qcy18 hS ?qcr18
      case qcy18 => (rintro wx ⟨x1, x2, x3, x4, x5, x6, x7, x8⟩; obtain ⟨u0, u1, u2, u3, u4⟩ := x1.cells; have z0 := conv_rd (P := Try.prog) 25 5 9 Try.underlying25 Try.underlying5 Try.underlying9 x3; have z1 := conv_rd (P := Try.prog) 25 5 9 Try.underlying25 Try.underlying5 Try.underlying9 x4; have z2 := conv_rd (P := Try.prog) 25 5 9 Try.underlying25 Try.underlying5 Try.underlying9 x6; have z3 := conv_rd (P := Try.prog) 25 5 9 Try.underlying25 Try.underlying5 Try.underlying9 x7; go_simp; all_goals (with_reducible rfl))
      try simp only [Act.put, List.setIfInBounds_toArray, List.set_cons_zero, List.set_cons_succ]
      refine reg_take (i := 19) (v := ?qcv19) rfl (by kernel_rfl) (by kernel_rfl) (by kernel_rfl) (by kernel_rfl) ?qcy19 hS ?qcr19
      case qcy19 => (rintro wx ⟨x1, x2, x3, x4, x5, x6, x7, x8⟩; obtain ⟨u0, u1, u2, u3, u4⟩ := x1.cells; have z0 := conv_rd (P := Try.prog) 25 5 9 Try.underlying25 Try.underlying5 Try.underlying9 x3; have z1 := conv_rd (P := Try.prog) 25 5 9 Try.underlying25 Try.underlying5 Try.underlying9 x4; have z2 := conv_rd (P := Try.prog) 25 5 9 Try.underlying25 Try.underlying5 Try.underlying9 x6; have z3 := conv_rd (P := Try.prog) 25 5 9 Try.underlying25 Try.underlying5 Try.underlying9 x7; go_simp; all_goals (with_reducible rfl))
      try simp only [Act.put, List.setIfInBounds_toArray, List.set_cons_zero, List.set_cons_succ]
      refine reg_take (i := 20) (v := ?qcv20) rfl (by kernel_rfl) (by kernel_rfl) (by kernel_rfl) (by kernel_rfl) ?qcy20 hS ?qcr20
      case qcy20 => (rintro wx ⟨x1, x2, x3, x4, x5, x6, x7, x8⟩; obtain ⟨u0, u1, u2, u3, u4⟩ := x1.cells; have z0 := conv_rd (P := Try.prog) 25 5 9 Try.underlying25 Try.underlying5 Try.underlying9 x3; have z1 := conv_rd (P := Try.prog) 25 5 9 Try.underlying25 Try.underlying5 Try.underlying9 x4; have z2 := conv_rd (P := Try.prog) 25 5 9 Try.underlying25 Try.underlying5 Try.underlying9 x6; have z3 := conv_rd (P := Try.prog) 25 5 9 Try.underlying25 Try.underlying5 Try.underlying9 x7; go_simp; all_goals (with_reducible rfl))
      try simp only [Act.put, List.setIfInBounds_toArray, List.set_cons_zero, List.set_cons_succ]
      refine reg_take (i := 21) (v := ?qcv21) rfl (by kernel_rfl) (by kernel_rfl) (by kernel_rfl) (by kernel_rfl) ?qcy21 hS ?qcr21
      case qcy21 => (rintro wx ⟨x1, x2, x3, x4, x5, x6, x7, x8⟩; obtain ⟨u0, u1, u2, u3, u4⟩ := x1.cells; have z0 := conv_rd (P := Try.prog) 25 5 9 Try.underlying25 Try.underlying5 Try.underlying9 x3; have z1 := conv_rd (P := Try.prog) 25 5 9 Try.underlying25 Try.underlying5 Try.underlying9 x4; have z2 := conv_rd (P := Try.prog) 25 5 9 Try.underlying25 Try.underlying5 Try.underlying9 x6; have z3 := conv_rd (P := Try.prog) 25 5 9 Try.underlying25 Try.underlying5 Try.underlying9 x7; go_simp; all_goals (with_reducible rfl))
      try simp only [Act.put, List.setIfInBounds_toArray, List.set_cons_zero, List.set_cons_succ]
      refine reg_take (i := 22) (v := ?qcv22) rfl (by kernel_rfl) (by kernel_rfl) (by kernel_rfl) (by kernel_rfl) ?qcy22 hS ?qcr22
      case qcy22 => (rintro wx ⟨x1, x2, x3, x4, x5, x6, x7, x8⟩; obtain ⟨u0, u1, u2, u3, u4⟩ := x1.cells; have z0 := conv_rd (P := Try.prog) 25 5 9 Try.underlying25 Try.underlying5 Try.underlying9 x3; have z1 := conv_rd (P := Try.prog) 25 5 9 Try.underlying25 Try.underlying5 Try.underlying9 x4; have z2 := conv_rd (P := Try.prog) 25 5 9 Try.underlying25 Try.underlying5 Try.underlying9 x6; have z3 := conv_rd (P := Try.prog) 25 5 9 Try.underlying25 Try.underlying5 Try.underlying9 x7; go_simp; all_goals (with_reducible rfl))
      try simp only [Act.put, List.setIfInBounds_toArray, List.set_cons_zero, List.set_cons_succ]
      refine reg_take (i := 23) (v := ?qcv23) rfl (by kernel_rfl) (by kernel_rfl) (by kernel_rfl) (by kernel_rfl) ?qcy23 hS ?qcr23
      case qcy23 => (rintro wx ⟨x1, x2, x3, x4, x5, x6, x7, x8⟩; obtain ⟨u0, u1, u2, u3, u4⟩ := x1.cells; have z0 := conv_rd (P := Try.prog) 25 5 9 Try.underlying25 Try.underlying5 Try.underlying9 x3; have z1 := conv_rd (P := Try.prog) 25 5 9 Try.underlying25 Try.underlying5 Try.underlying9 x4; have z2 := conv_rd (P := Try.prog) 25 5 9 Try.underlying25 Try.underlying5 Try.underlying9 x6; have z3 := conv_rd (P := Try.prog) 25 5 9 Try.underlying25 Try.underlying5 Try.underlying9 x7; go_simp; all_goals (with_reducible rfl))
      try simp only [Act.put, List.setIfInBounds_toArray, List.set_cons_zero, List.set_cons_succ]
      refine reg_take (i := 24) (v := ?qcv24) rfl (by kernel_rfl) (by kernel_rfl) (by kernel_rfl) (by kernel_rfl) ?qcy24 hS ?qcr24
      case qcy24 => (rintro wx ⟨x1, x2, x3, x4, x5, x6, x7, x8⟩; obtain ⟨u0, u1, u2, u3, u4⟩ := x1.cells; have z0 := conv_rd (P := Try.prog) 25 5 9 Try.underlying25 Try.underlying5 Try.underlying9 x3; have z1 := conv_rd (P := Try.prog) 25 5 9 Try.underlying25 Try.underlying5 Try.underlying9 x4; have z2 := conv_rd (P := Try.prog) 25 5 9 Try.underlying25 Try.underlying5 Try.underlying9 x6; have z3 := conv_rd (P := Try.prog) 25 5 9 Try.underlying25 Try.underlying5 Try.underlying9 x7; go_simp; all_goals (with_reducible rfl))
      try simp only [Act.put, List.setIfInBounds_toArray, List.set_cons_zero, List.set_cons_succ]
      refine reg_take (i := 25) (v := ?qcv25) rfl (by kernel_rfl) (by kernel_rfl) (by kernel_rfl) (by kernel_rfl) ?qcy25 hS ?qcr25
      case qcy25 => (rintro wx ⟨x1, x2, x3, x4, x5, x6, x7, x8⟩; obtain ⟨u0, u1, u2, u3, u4⟩ := x1.cells; have z0 := conv_rd (P := Try.prog) 25 5 9 Try.underlying25 Try.underlying5 Try.underlying9 x3; have z1 := conv_rd (P := Try.prog) 25 5 9 Try.underlying25 Try.underlying5 Try.underlying9 x4; have z2 := conv_rd (P := Try.prog) 25 5 9 Try.underlying25 Try.underlying5 Try.underlying9 x6; have z3 := conv_rd (P := Try.prog) 25 5 9 Try.underlying25 Try.underlying5 Try.underlying9 x7; go_simp; all_goals (with_reducible rfl))
      try simp only [Act.put, List.setIfInBounds_toArray, List.set_cons_zero, List.set_cons_succ]
      refine reg_take (i := 26) (v := ?qcv26) rfl (by kernel_rfl) (by kernel_rfl) (by kernel_rfl) (by kernel_rfl) ?qcy26 hS ?qcr26
      case qcy26 => (rintro wx ⟨x1, x2, x3, x4, x5, x6, x7, x8⟩; obtain ⟨u0, u1, u2, u3, u4⟩ := x1.cells; have z0 := conv_rd (P := Try.prog) 25 5 9 Try.underlying25 Try.underlying5 Try.underlying9 x3; have z1 := conv_rd (P := Try.prog) 25 5 9 Try.underlying25 Try.underlying5 Try.underlying9 x4; have z2 := conv_rd (P := Try.prog) 25 5 9 Try.underlying25 Try.underlying5 Try.underlying9 x6; have z3 := conv_rd (P := Try.prog) 25 5 9 Try.underlying25 Try.underlying5 Try.underlying9 x7; go_simp; all_goals (with_reducible rfl))
      try simp only [Act.put, List.setIfInBounds_toArray, List.set_cons_zero, List.set_cons_succ]
      refine reg_take (i := 27) (v := ?qcv27) rfl (by kernel_rfl) (by kernel_rfl) (by kernel_rfl) (by kernel_rfl) ?qcy27 hS ?qcr27
      case qcy27 => (rintro wx ⟨x1, x2, x3, x4, x5, x6, x7, x8⟩; obtain ⟨u0, u1, u2, u3, u4⟩ := x1.cells; have z0 := conv_rd (P := Try.prog) 25 5 9 Try.underlying25 Try.underlying5 Try.underlying9 x3; have z1 := conv_rd (P := Try.prog) 25 5 9 Try.underlying25 Try.underlying5 Try.underlying9 x4; have z2 := conv_rd (P := Try.prog) 25 5 9 Try.underlying25 Try.underlying5 Try.underlying9 x6; have z3 := conv_rd (P := Try.prog) 25 5 9 Try.underlying25 Try.underlying5 Try.underlying9 x7; go_simp; all_goals (with_reducible rfl))
      try simp only [Act.put, List.setIfInBounds_toArray, List.set_cons_zero, List.set_cons_succ]
      refine reg_take (i := 28) (v := ?qcv28) rfl (by kernel_rfl) (by kernel_rfl) (by kernel_rfl) (by kernel_rfl) ?qcy28 hS ?qcr28
      case qcy28 => (rintro wx ⟨x1, x2, x3, x4, x5, x6, x7, x8⟩; obtain ⟨u0, u1, u2, u3, u4⟩ := x1.cells; have z0 := conv_rd (P := Try.prog) 25 5 9 Try.underlying25 Try.underlying5 Try.underlying9 x3; have z1 := conv_rd (P := Try.prog) 25 5 9 Try.underlying25 Try.underlying5 Try.underlying9 x4; have z2 := conv_rd (P := Try.prog) 25 5 9 Try.underlying25 Try.underlying5 Try.underlying9 x6; have z3 := conv_rd (P := Try.prog) 25 5 9 Try.underlying25 Try.underlying5 Try.underlying9 x7; go_simp; all_goals (with_reducible rfl))
      try simp only [Act.put, List.setIfInBounds_toArray, List.set_cons_zero, List.set_cons_succ]
      refine reg_take (i := 29) (v := ?qcv29) rfl (by kernel_rfl) (by kernel_rfl) (by kernel_rfl) (by kernel_rfl) ?qcy29 hS ?qcr29
      case qcy29 => (rintro wx ⟨x1, x2, x3, x4, x5, x6, x7, x8⟩; obtain ⟨u0, u1, u2, u3, u4⟩ := x1.cells; have z0 := conv_rd (P := Try.prog) 25 5 9 Try.underlying25 Try.underlying5 Try.underlying9 x3; have z1 := conv_rd (P := Try.prog) 25 5 9 Try.underlying25 Try.underlying5 Try.underlying9 x4; have z2 := conv_rd (P := Try.prog) 25 5 9 Try.underlying25 Try.underlying5 Try.underlying9 x6; have z3 := conv_rd (P := Try.prog) 25 5 9 Try.underlying25 Try.underlying5 Try.underlying9 x7; go_simp; all_goals (with_reducible rfl))
      try simp only [Act.put, List.setIfInBounds_toArray, List.set_cons_zero, List.set_cons_succ]
      refine reg_take (i := 30) (v := ?qcv30) rfl (by kernel_rfl) (by kernel_rfl) (by kernel_rfl) (by kernel_rfl) ?qcy30 hS ?qcr30
      case qcy30 => (rintro wx ⟨x1, x2, x3, x4, x5, x6, x7, x8⟩; obtain ⟨u0, u1, u2, u3, u4⟩ := x1.cells; have z0 := conv_rd (P := Try.prog) 25 5 9 Try.underlying25 Try.underlying5 Try.underlying9 x3; have z1 := conv_rd (P := Try.prog) 25 5 9 Try.underlying25 Try.underlying5 Try.underlying9 x4; have z2 := conv_rd (P := Try.prog) 25 5 9 Try.underlying25 Try.underlying5 Try.underlying9 x6; have z3 := conv_rd (P := Try.prog) 25 5 9 Try.underlying25 Try.underlying5 Try.underlying9 x7; go_simp; all_goals (with_reducible rfl))
      try simp only [Act.put, List.setIfInBounds_toArray, List.set_cons_zero, List.set_cons_succ]
      refine reg_take (i := 31) (v := ?qcv31) rfl (by kernel_rfl) (by kernel_rfl) (by kernel_rfl) (by kernel_rfl) ?qcy31 hS ?qcr31
      case qcy31 => (rintro wx ⟨x1, x2, x3, x4, x5, x6, x7, x8⟩; obtain ⟨u0, u1, u2, u3, u4⟩ := x1.cells; have z0 := conv_rd (P := Try.prog) 25 5 9 Try.underlying25 Try.underlying5 Try.underlying9 x3; have z1 := conv_rd (P := Try.prog) 25 5 9 Try.underlying25 Try.underlying5 Try.underlying9 x4; have z2 := conv_rd (P := Try.prog) 25 5 9 Try.underlying25 Try.underlying5 Try.underlying9 x6; have z3 := conv_rd (P := Try.prog) 25 5 9 Try.underlying25 Try.underlying5 Try.underlying9 x7; go_simp; all_goals (with_reducible rfl))
      try simp only [Act.put, List.setIfInBounds_toArray, List.set_cons_zero, List.set_cons_succ]
      refine reg_take (i := 32) (v := ?qcv32) rfl (by kernel_rfl) (by kernel_rfl) (by kernel_rfl) (by kernel_rfl) ?qcy32 hS ?qcr32
      case qcy32 => (rintro wx ⟨x1, x2, x3, x4, x5, x6, x7, x8⟩; obtain ⟨u0, u1, u2, u3, u4⟩ := x1.cells; have z0 := conv_rd (P := Try.prog) 25 5 9 Try.underlying25 Try.underlying5 Try.underlying9 x3; have z1 := conv_rd (P := Try.prog) 25 5 9 Try.underlying25 Try.underlying5 Try.underlying9 x4; have z2 := conv_rd (P := Try.prog) 25 5 9 Try.underlying25 Try.underlying5 Try.underlying9 x6; have z3 := conv_rd (P := Try.prog) 25 5 9 Try.underlying25 Try.underlying5 Try.underlying9 x7; go_simp; all_goals (with_reducible rfl))
      try simp only [Act.put, List.setIfInBounds_toArray, List.set_cons_zero, List.set_cons_succ]
      refine reg_take (i := 33) (v := ?qcv33) rfl (by kernel_rfl) (by kernel_rfl) (by kernel_rfl) (by kernel_rfl) ?qcy33 hS ?qcr33
      case qcy33 => (rintro wx ⟨x1, x2, x3, x4, x5, x6, x7, x8⟩; obtain ⟨u0, u1, u2, u3, u4⟩ := x1.cells; have z0 := conv_rd (P := Try.prog) 25 5 9 Try.underlying25 Try.underlying5 Try.underlying9 x3; have z1 := conv_rd (P := Try.prog) 25 5 9 Try.underlying25 Try.underlying5 Try.underlying9 x4; have z2 := conv_rd (P := Try.prog) 25 5 9 Try.underlying25 Try.underlying5 Try.underlying9 x6; have z3 := conv_rd (P := Try.prog) 25 5 9 Try.underlying25 Try.underlying5 Try.underlying9 x7; go_simp; all_goals (with_reducible rfl))
      try simp only [Act.put, List.setIfInBounds_toArray, List.set_cons_zero, List.set_cons_succ]
      refine reg_take (i := 34) (v := ?qcv34) rfl (by kernel_rfl) (by kernel_rfl) (by kernel_rfl) (by kernel_rfl) ?qcy34 hS ?qcr34
      case qcy34 => (rintro wx ⟨x1, x2, x3, x4, x5, x6, x7, x8⟩; obtain ⟨u0, u1, u2, u3, u4⟩ := x1.cells; have z0 := conv_rd (P := Try.prog) 25 5 9 Try.underlying25 Try.underlying5 Try.underlying9 x3; have z1 := conv_rd (P := Try.prog) 25 5 9 Try.underlying25 Try.underlying5 Try.underlying9 x4; have z2 := conv_rd (P := Try.prog) 25 5 9 Try.underlying25 Try.underlying5 Try.underlying9 x6; have z3 := conv_rd (P := Try.prog) 25 5 9 Try.underlying25 Try.underlying5 Try.underlying9 x7; go_simp; all_goals (with_reducible rfl))
      try simp only [Act.put, List.setIfInBounds_toArray, List.set_cons_zero, List.set_cons_succ]
      refine reg_take (i := 35) (v := ?qcv35) rfl (by kernel_rfl) (by kernel_rfl) (by kernel_rfl) (by kernel_rfl) ?qcy35 hS ?qcr35
      case qcy35 => (rintro wx ⟨x1, x2, x3, x4, x5, x6, x7, x8⟩; obtain ⟨u0, u1, u2, u3, u4⟩ := x1.cells; have z0 := conv_rd (P := Try.prog) 25 5 9 Try.underlying25 Try.underlying5 Try.underlying9 x3; have z1 := conv_rd (P := Try.prog) 25 5 9 Try.underlying25 Try.underlying5 Try.underlying9 x4; have z2 := conv_rd (P := Try.prog) 25 5 9 Try.underlying25 Try.underlying5 Try.underlying9 x6; have z3 := conv_rd (P := Try.prog) 25 5 9 Try.underlying25 Try.underlying5 Try.underlying9 x7; go_simp; all_goals (with_reducible rfl))
      try simp only [Act.put, List.setIfInBounds_toArray, List.set_cons_zero, List.set_cons_succ]
      refine reg_take (i := 36) (v := ?qcv36) rfl (by kernel_rfl) (by kernel_rfl) (by kernel_rfl) (by kernel_rfl) ?qcy36 hS ?qcr36
      case qcy36 => (rintro wx ⟨x1, x2, x3, x4, x5, x6, x7, x8⟩; obtain ⟨u0, u1, u2, u3, u4⟩ := x1.cells; have z0 := conv_rd (P := Try.prog) 25 5 9 Try.underlying25 Try.underlying5 Try.underlying9 x3; have z1 := conv_rd (P := Try.prog) 25 5 9 Try.underlying25 Try.underlying5 Try.underlying9 x4; have z2 := conv_rd (P := Try.prog) 25 5 9 Try.underlying25 Try.underlying5 Try.underlying9 x6; have z3 := conv_rd (P := Try.prog) 25 5 9 Try.underlying25 Try.underlying5 Try.underlying9 x7; go_simp; all_goals (with_reducible rfl))
      try simp only [Act.put, List.setIfInBounds_toArray, List.set_cons_zero, List.set_cons_succ]
      refine reg_take (i := 37) (v := ?qcv37) rfl (by kernel_rfl) (by kernel_rfl) (by kernel_rfl) (by kernel_rfl) ?qcy37 hS ?qcr37
      case qcy37 => (rintro wx ⟨x1, x2, x3, x4, x5, x6, x7, x8⟩; obtain ⟨u0, u1, u2, u3, u4⟩ := x1.cells; have z0 := conv_rd (P := Try.prog) 25 5 9 Try.underlying25 Try.underlying5 Try.underlying9 x3; have z1 := conv_rd (P := Try.prog) 25 5 9 Try.underlying25 Try.underlying5 Try.underlying9 x4; have z2 := conv_rd (P := Try.prog) 25 5 9 Try.underlying25 Try.underlying5 Try.underlying9 x6; have z3 := conv_rd (P := Try.prog) 25 5 9 Try.underlying25 Try.underlying5 Try.underlying9 x7; go_simp; all_goals (with_reducible rfl))
      try simp only [Act.put, List.setIfInBounds_toArray, List.set_cons_zero, List.set_cons_succ]
      refine reg_take (i := 38) (v := ?qcv38) rfl (by kernel_rfl) (by kernel_rfl) (by kernel_rfl) (by kernel_rfl) ?qcy38 hS ?qcr38
      case qcy38 => (rintro wx ⟨x1, x2, x3, x4, x5, x6, x7, x8⟩; obtain ⟨u0, u1, u2, u3, u4⟩ := x1.cells; have z0 := conv_rd (P := Try.prog) 25 5 9 Try.underlying25 Try.underlying5 Try.underlying9 x3; have z1 := conv_rd (P := Try.prog) 25 5 9 Try.underlying25 Try.underlying5 Try.underlying9 x4; have z2 := conv_rd (P := Try.prog) 25 5 9 Try.underlying25 Try.underlying5 Try.underlying9 x6; have z3 := conv_rd (P := Try.prog) 25 5 9 Try.underlying25 Try.underlying5 Try.underlying9 x7; go_simp; all_goals (with_reducible rfl))
      try simp only [Act.put, List.setIfInBounds_toArray, List.set_cons_zero, List.set_cons_succ]
      refine reg_take (i := 39) (v := ?qcv39) rfl (by kernel_rfl) (by kernel_rfl) (by kernel_rfl) (by kernel_rfl) ?qcy39 hS ?qcr39
      case qcy39 => (rintro wx ⟨x1, x2, x3, x4, x5, x6, x7, x8⟩; obtain ⟨u0, u1, u2, u3, u4⟩ := x1.cells; have z0 := conv_rd (P := Try.prog) 25 5 9 Try.underlying25 Try.underlying5 Try.underlying9 x3; have z1 := conv_rd (P := Try.prog) 25 5 9 Try.underlying25 Try.underlying5 Try.underlying9 x4; have z2 := conv_rd (P := Try.prog) 25 5 9 Try.underlying25 Try.underlying5 Try.underlying9 x6; have z3 := conv_rd (P := Try.prog) 25 5 9 Try.underlying25 Try.underlying5 Try.underlying9 x7; go_simp; all_goals (with_reducible rfl))
      try simp only [Act.put, List.setIfInBounds_toArray, List.set_cons_zero, List.set_cons_succ]
      refine reg_take (i := 40) (v := ?qcv40) rfl (by kernel_rfl) (by kernel_rfl) (by kernel_rfl) (by kernel_rfl) ?qcy40 hS ?qcr40
      case qcy40 => (rintro wx ⟨x1, x2, x3, x4, x5, x6, x7, x8⟩; obtain ⟨u0, u1, u2, u3, u4⟩ := x1.cells; have z0 := conv_rd (P := Try.prog) 25 5 9 Try.underlying25 Try.underlying5 Try.underlying9 x3; have z1 := conv_rd (P := Try.prog) 25 5 9 Try.underlying25 Try.underlying5 Try.underlying9 x4; have z2 := conv_rd (P := Try.prog) 25 5 9 Try.underlying25 Try.underlying5 Try.underlying9 x6; have z3 := conv_rd (P := Try.prog) 25 5 9 Try.underlying25 Try.underlying5 Try.underlying9 x7; go_simp; all_goals (with_reducible rfl))
      try simp only [Act.put, List.setIfInBounds_toArray, List.set_cons_zero, List.set_cons_succ]
      refine reg_take (i := 41) (v := ?qcv41) rfl (by kernel_rfl) (by kernel_rfl) (by kernel_rfl) (by kernel_rfl) ?qcy41 hS ?qcr41
      case qcy41 => (rintro wx ⟨x1, x2, x3, x4, x5, x6, x7, x8⟩; obtain ⟨u0, u1, u2, u3, u4⟩ := x1.cells; have z0 := conv_rd (P := Try.prog) 25 5 9 Try.underlying25 Try.underlying5 Try.underlying9 x3; have z1 := conv_rd (P := Try.prog) 25 5 9 Try.underlying25 Try.underlying5 Try.underlying9 x4; have z2 := conv_rd (P := Try.prog) 25 5 9 Try.underlying25 Try.underlying5 Try.underlying9 x6; have z3 := conv_rd (P := Try.prog) 25 5 9 Try.underlying25 Try.underlying5 Try.underlying9 x7; go_simp; all_goals (with_reducible rfl))
      try simp only [Act.put, List.setIfInBounds_toArray, List.set_cons_zero, List.set_cons_succ]
      refine reg_take (i := 42) (v := ?qcv42) rfl (by kernel_rfl) (by kernel_rfl) (by kernel_rfl) (by kernel_rfl) ?qcy42 hS ?qcr42
      case qcy42 => (rintro wx ⟨x1, x2, x3, x4, x5, x6, x7, x8⟩; obtain ⟨u0, u1, u2, u3, u4⟩ := x1.cells; have z0 := conv_rd (P := Try.prog) 25 5 9 Try.underlying25 Try.underlying5 Try.underlying9 x3; have z1 := conv_rd (P := Try.prog) 25 5 9 Try.underlying25 Try.underlying5 Try.underlying9 x4; have z2 := conv_rd (P := Try.prog) 25 5 9 Try.underlying25 Try.underlying5 Try.underlying9 x6; have z3 := conv_rd (P := Try.prog) 25 5 9 Try.underlying25 Try.underlying5 Try.underlying9 x7; go_simp; all_goals (with_reducible rfl))
      try simp only [Act.put, List.setIfInBounds_toArray, List.set_cons_zero, List.set_cons_succ]
      refine wpAnyH_done (by kernel_rfl) ?_ _
      refine NoPanic.normal ?_
      obtain ⟨-, -, -, -, -, -, -, hBZ⟩ := hS
      clear hK
      go_wp2
      go_ret
      exact ⟨rfl, hBZ⟩
end Go.Proofs.Ytkhkdagdgbmdkaa
