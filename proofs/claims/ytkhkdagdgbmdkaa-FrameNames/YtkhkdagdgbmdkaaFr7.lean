/-
  What frame's Open, greatestSalt and Greatest do.
-/
import Derived.Test.YtkhkdagdgbmdkaaFr6
namespace Go.Proofs.Ytkhkdagdgbmdkaa
open Go.RowKit
set_option linter.unusedVariables false
set_option linter.unusedSimpArgs false

/-- What Open answers. -/
def opnE (g n p : Nat) (l : List (List UInt8)) : Int := if chkL l ≠ 0 then chkL l else if (opn g n p l).2.2 = 0 then 6 else 0
def opnR (g n p : Nat) (l : List (List UInt8)) : Op := if chkL l ≠ 0 then ([], 0, 0) else opn g n p l
theorem opn_zeros {g n p : Nat} {l : List (List UInt8)} (h : (opn g n p l).2.2 = 0) : opn g n p l = ([], 0, 0) := opn_no ((opn_zero g n p l).1 h)

set_option maxHeartbeats 1000000 in
set_option maxRecDepth 100000 in
theorem open_fr (gn nm pv : Nat) (a : Option Addr) (n c : Nat) (l : List (List UInt8)) (w : World) (hg : gn < 4294967296) (hnm : nm < 4294967296) (hpv : pv < 4294967296) (hrd : RdL w (.slice a n c) l) :
    Calls Try.prog 10 #[.int .u32 gn, .int .u32 nm, .int .u32 pv, .slice a n c] w fun e w' => ∃ v, e = .returned (.tuple #[v, .int .u32 (opnR gn nm pv l).2.1, .int .i64 (opnR gn nm pv l).2.2, .int .i64 (opnE gn nm pv l)]) ∧ OwB w' w.heap.size v (opnR gn nm pv l).1 ∧ Below w.heap.size w w' := by
  have HR := hide hrd
  have HG := hide (show gn < 4294967296 ∧ nm < 4294967296 ∧ pv < 4294967296 from ⟨hg, hnm, hpv⟩)
  clear hrd hg hnm hpv
  by_cases he : chkL l = 0
  · have HE := hide (show opnE gn nm pv l = if (opn gn nm pv l).2.2 = 0 then 6 else 0 by unfold opnE; rw [if_neg (fun h => h he)])
    have HV := hide (show opnR gn nm pv l = opn gn nm pv l by unfold opnR; rw [if_neg (fun h => h he)])
    have HC := hide he
    clear he
    go_enter Try.func10, Try.ntmps10
    go_wp2_with fail
    refine (check_fr a n c l _ HR.out).mono ?_
    rintro e w1 ⟨rfl, rfl⟩
    rw [HC.out]
    go_wp2_with fail
    refine (opened_any gn nm pv a n c l _ HG.out.1 HG.out.2.1 HG.out.2.2 HR.out (chkL_ok HC.out).1 (chkL_ok HC.out).2).mono ?_
    rintro e w2 ⟨v, rfl, hO, hb⟩
    have HO := hide hO
    clear hO
    by_cases hk : (opn gn nm pv l).2.2 = 0
    · have HZ := hide (opn_zeros hk)
      have HK := hide hk
      rw [hk]
      generalize (opn gn nm pv l).2.1 = s
      clear hk
      go_wp2
      refine bodyPost_ret (v := .tuple #[.slice none 0 0, .int .u32 0, .int .i64 0, .int .i64 6]) ?_ rfl ⟨.slice none 0 0, ?_, ?_, hb⟩
      · simp [results, Try.results10, go_sem]
      · rw [HE.out, if_pos HK.out, HV.out, HZ.out]; rfl
      · rw [HV.out, HZ.out]; exact World.ownsRow_nil _ _ _ _
    · obtain ⟨av, cv, rfl⟩ := HO.out.form
      have HK := hide hk
      obtain ⟨K, hK⟩ : ∃ K, K = (opn gn nm pv l).2.2 := ⟨_, rfl⟩
      obtain ⟨s, hs⟩ : ∃ s, s = (opn gn nm pv l).2.1 := ⟨_, rfl⟩
      obtain ⟨m, hm⟩ : ∃ m, m = (opn gn nm pv l).1.length := ⟨_, rfl⟩
      have HKS := hide (show opn gn nm pv l = ((opn gn nm pv l).1, s, K) by rw [hs, hK])
      rw [← hK, ← hs, ← hm]
      rw [← hK] at hk
      rw [← hm] at HO
      have hk' : ((K : Int) == 0) = false := by simpa using (by omega : ¬ (K : Int) = 0)
      clear hK hs hm hk
      go_wp2
      refine bodyPost_ret (v := .tuple #[.slice av m cv, .int .u32 s, .int .i64 K, .int .i64 0]) ?_ rfl ⟨.slice av m cv, ?_, ?_, hb⟩
      · simp [results, Try.results10, go_sem]
      · rw [HE.out, if_neg HK.out, HV.out, HKS.out]
      · rw [HV.out]; exact HO.out
  · have HE := hide (show opnE gn nm pv l = chkL l by unfold opnE; rw [if_pos he])
    have HV := hide (show opnR gn nm pv l = ([], 0, 0) by unfold opnR; rw [if_pos he])
    obtain ⟨E, hE⟩ : ∃ E, E = chkL l := ⟨_, rfl⟩
    have HEE := hide hE
    rw [← hE] at he
    have hne : (E != 0) = true := by simpa using he
    clear hE he
    go_enter Try.func10, Try.ntmps10
    go_wp2_with fail
    refine (check_fr a n c l _ HR.out).mono ?_
    rintro e w1 ⟨rfl, rfl⟩
    rw [← HEE.out]
    go_wp2
    refine bodyPost_ret (v := .tuple #[.slice none 0 0, .int .u32 0, .int .i64 0, .int .i64 E]) ?_ rfl ⟨.slice none 0 0, ?_, ?_, Below.refl _ _⟩
    · simp [results, Try.results10, go_sem]
    · rw [HE.out, HV.out, HEE.out]; rfl
    · rw [HV.out]; exact World.ownsRow_nil _ _ _ _

theorem great_take (g : Nat) (l : List (List UInt8)) (k : Nat) (hk : k < l.length) : greatB g (l.take (k + 1)) = gmax g (greatB g (l.take k)) l[k] := by
  unfold greatB; rw [List.take_succ_eq_append_getElem hk, List.foldl_append]; rfl
theorem most_take (l : List (List UInt8)) (k : Nat) (hk : k < l.length) : mostB (l.take (k + 1)) = max (mostB (l.take k)) (genF l[k]) := by
  unfold mostB; rw [List.take_succ_eq_append_getElem hk, List.foldl_append]; rfl

theorem max3_if (a b c : Nat) : (if (if a < b then (b : Int) else a) < c then (c : Int) else if a < b then (b : Int) else a) = ((max a (max b c) : Nat) : Int) := by
  by_cases h : a < b
  · simp only [if_pos h]; split <;> omega
  · simp only [if_neg h]; split <;> omega
theorem max2_if (a b : Nat) : (if a < b then (b : Int) else a) = ((max a b : Nat) : Int) := by split <;> omega

set_option maxHeartbeats 1000000 in
set_option maxRecDepth 100000 in
theorem greatest_any (gn : Nat) (a : Option Addr) (n c : Nat) (l : List (List UInt8)) (w : World) (hrd : RdL w (.slice a n c) l) (hl : l.length ≤ 4096) (hall : ∀ b ∈ l, b.length = 128) :
    Calls Try.prog 20 #[.int .u32 gn, .slice a n c] w fun e w' => e = .returned (.int .u32 (greatB gn l)) ∧ Below w.heap.size w w' := by
  have HN := hide hrd.le.1
  have hn4 : n ≤ 4096 := by have := HN.out; omega
  have HR := hide hrd
  have HA := hide hall
  clear hrd hall hl
  go_enter Try.func20, Try.ntmps20
  go_wp2
  go_loopw [4, 10] (fun m i wr => ∃ k : Nat, k ≤ n ∧ i = .int .i64 k ∧ m = .int .u32 (greatB gn (l.take k)) ∧ Below w.heap.size w wr) (fun _ i _ => n - (intOf i).toNat)
  case atStart => exact ⟨0, Nat.zero_le _, rfl, rfl, Below.refl _ _⟩
  case round =>
    obtain ⟨k, hk, rfl, rfl, hbel⟩ := hrel
    by_cases hlt : k < n
    · have hlt' : (k : Int) < n := by omega
      have hkl : k < l.length := by have := HN.out; omega
      obtain ⟨b, off, y, z, rfl, q0, q1⟩ := (HR.out.carry hbel).at k hkl
      have hl128 : (l[k]).length = 128 := HA.out _ (List.getElem_mem hkl)
      obtain ⟨x, hx⟩ : ∃ x, x = l[k] := ⟨_, rfl⟩
      rw [← hx] at q0 q1 hl128
      rw [hl128] at q0 q1
      have HX := hide hl128
      obtain ⟨g', o', rfl, -⟩ := rd_some6 q1 (by intro e; have := HX.out; rw [e] at this; simp at this)
      have HQ := hide q1
      obtain ⟨M, hM⟩ : ∃ M, M = greatB gn (l.take k) := ⟨_, rfl⟩
      have HGM := hide (show greatB gn (l.take (k + 1)) = gmax gn M x by rw [great_take _ _ _ hkl, hM, hx])
      rw [← hM]
      clear q1 hl128 hx hM
      go_wp2_with fail
      refine (begun_any g' o' z x _ HQ.out HX.out).mono ?_
      rintro e w3 ⟨rfl, hb3⟩
      have hB3 : Below w.heap.size w w3 := hbel.trans (hb3.mono hbel.size)
      unfold begV
      obtain ⟨n0, hn0⟩ : ∃ n0, n0 = genF x := ⟨_, rfl⟩
      obtain ⟨n1, hn1⟩ : ∃ n1, n1 = numB x := ⟨_, rfl⟩
      obtain ⟨n2, hn2⟩ : ∃ n2, n2 = saltB x := ⟨_, rfl⟩
      obtain ⟨n3, hn3⟩ : ∃ n3, n3 = prevB x := ⟨_, rfl⟩
      have HGX := hide (show gmax gn M x = if n0 = gn then max M (max n2 n3) else M by unfold gmax; rw [hn0, hn2, hn3])
      rw [← hn0, ← hn1, ← hn2, ← hn3]
      have hB4 : ∀ o, Below w.heap.size w (w3.alloc o) := fun o => hB3.alloc hB3.size o
      clear hn0 hn1 hn2 hn3 hb3 q0 hbel
      by_cases hge : n0 = gn
      · subst hge
        have HG2 := hide (show greatB n0 (l.take (k + 1)) = max M (max n2 n3) by rw [HGM.out, HGX.out, if_pos rfl])
        have HMX := hide (max3_if M n2 n3)
        go_wp2
        refine ⟨⟨k + 1, by omega, rfl, congrArg (Value.int .u32) (by rw [HG2.out]; exact HMX.out), hB4 _⟩, by simp only [intOf]; omega⟩
      · have hge' : ((n0 : Int) == gn) = false := by simpa using (by omega : ¬ (n0 : Int) = gn)
        have HG2 := hide (show greatB gn (l.take (k + 1)) = M by rw [HGM.out, HGX.out, if_neg hge])
        go_wp2
        refine ⟨⟨k + 1, by omega, rfl, congrArg (Value.int .u32) (by rw [HG2.out]), hB4 _⟩, by simp only [intOf]; omega⟩
    · have hd : decide ((k : Int) < n) = false := by simpa using (by omega : ¬ (k : Int) < n)
      have HE := hide (show l.take k = l by rw [List.take_of_length_le (by rw [← HN.out]; omega)])
      go_wp2
      go_ret
      rw [HE.out]
      exact ⟨rfl, hbel⟩

/-- What Greatest answers. -/
def mostR (l : List (List UInt8)) : Nat := if chkL l ≠ 0 then 0 else mostB l

set_option maxHeartbeats 1000000 in
set_option maxRecDepth 100000 in
theorem most_any (a : Option Addr) (n c : Nat) (l : List (List UInt8)) (w : World) (hrd : RdL w (.slice a n c) l) :
    Calls Try.prog 13 #[.slice a n c] w fun e w' => e = .returned (.tuple #[.int .u32 (mostR l), .int .i64 (chkL l)]) ∧ Below w.heap.size w w' := by
  have HN := hide hrd.le.1
  have HR := hide hrd
  clear hrd
  by_cases he : chkL l = 0
  · have HV := hide (show mostR l = mostB l by unfold mostR; rw [if_neg (fun h => h he)])
    have hn4 : n ≤ 4096 := by have := (chkL_ok he).1; have := HN.out; omega
    have HA := hide (chkL_ok he).2
    have HC := hide he
    clear he
    go_enter Try.func13, Try.ntmps13
    go_wp2_with fail
    refine (check_fr a n c l _ HR.out).mono ?_
    rintro e w1 ⟨rfl, rfl⟩
    rw [HC.out]
    go_wp2
    go_loopw [5, 15] (fun m i wr => ∃ k : Nat, k ≤ n ∧ i = .int .i64 k ∧ m = .int .u32 (mostB (l.take k)) ∧ Below w1.heap.size w1 wr) (fun _ i _ => n - (intOf i).toNat)
    case atStart => exact ⟨0, Nat.zero_le _, rfl, rfl, Below.refl _ _⟩
    case round =>
      obtain ⟨k, hk, rfl, rfl, hbel⟩ := hrel
      by_cases hlt : k < n
      · have hlt' : (k : Int) < n := by omega
        have hkl : k < l.length := by have := HN.out; omega
        obtain ⟨b, off, y, z, rfl, q0, q1⟩ := (HR.out.carry hbel).at k hkl
        have hl128 : (l[k]).length = 128 := HA.out _ (List.getElem_mem hkl)
        obtain ⟨x, hx⟩ : ∃ x, x = l[k] := ⟨_, rfl⟩
        rw [← hx] at q0 q1 hl128
        rw [hl128] at q0 q1
        have HX := hide hl128
        obtain ⟨g', o', rfl, -⟩ := rd_some6 q1 (by intro e; have := HX.out; rw [e] at this; simp at this)
        have HQ := hide q1
        obtain ⟨M, hM⟩ : ∃ M, M = mostB (l.take k) := ⟨_, rfl⟩
        obtain ⟨n0, hn0⟩ : ∃ n0, n0 = genF x := ⟨_, rfl⟩
        have HGM := hide (show mostB (l.take (k + 1)) = max M n0 by rw [most_take _ _ hkl, hM, hn0, hx])
        rw [← hM]
        clear q1 hl128 hx hM
        go_wp2_with fail
        refine (begun_any g' o' z x _ HQ.out HX.out).mono ?_
        rintro e w3 ⟨rfl, hb3⟩
        have hB3 : Below w1.heap.size w1 w3 := hbel.trans (hb3.mono hbel.size)
        unfold begV
        rw [← hn0]
        have hix := Try.ix0 n0 (numB x) (saltB x) (prevB x)
        have HMX := hide (max2_if M n0)
        clear hn0 hb3 q0 hbel
        go_wp2
        refine ⟨⟨k + 1, by omega, rfl, congrArg (Value.int .u32) (by rw [HGM.out]; exact HMX.out), hB3⟩, by simp only [intOf]; omega⟩
      · have hd : decide ((k : Int) < n) = false := by simpa using (by omega : ¬ (k : Int) < n)
        have HE := hide (show l.take k = l by rw [List.take_of_length_le (by rw [← HN.out]; omega)])
        go_wp2
        go_ret2
        rw [HE.out, HV.out, HC.out]
        exact ⟨rfl, hbel⟩
  · have HV := hide (show mostR l = 0 by unfold mostR; rw [if_pos he])
    obtain ⟨E, hE⟩ : ∃ E, E = chkL l := ⟨_, rfl⟩
    have HEE := hide hE
    rw [← hE] at he
    have hne : (E != 0) = true := by simpa using he
    clear hE he
    go_enter Try.func13, Try.ntmps13
    go_wp2_with fail
    refine (check_fr a n c l _ HR.out).mono ?_
    rintro e w1 ⟨rfl, rfl⟩
    rw [← HEE.out]
    go_wp2
    go_ret2
    rw [HV.out, ← HEE.out]
    exact ⟨rfl, Below.refl _ _⟩

end Go.Proofs.Ytkhkdagdgbmdkaa
