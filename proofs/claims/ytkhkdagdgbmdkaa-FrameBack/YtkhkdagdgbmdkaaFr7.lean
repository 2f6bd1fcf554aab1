/-
  What frame's Open, greatestSalt and Greatest do.
-/
import Derived.Test.YtkhkdagdgbmdkaaFr6
namespace Go.Proofs.Ytkhkdagdgbmdkaa
open Go.RowKit
set_option linter.unusedVariables false
set_option linter.unusedSimpArgs false

/-- What Open answers. -/
def opnE (g n p : Nat) (l : List (List UInt8)) : Int := if chkL l ≠ 0 then chkL l else if (opn g n p l).2.2 = 0 then 6 else 0
def opnR (g n p : Nat) (l : List (List UInt8)) : Op := if chkL l ≠ 0 then ([], 0, 0) else opn g n p l
theorem opn_zeros {g n p : Nat} {l : List (List UInt8)} (h : (opn g n p l).2.2 = 0) : opn g n p l = ([], 0, 0) := opn_no ((opn_zero g n p l).1 h)

set_option maxHeartbeats 1000000 in
set_option maxRecDepth 100000 in
theorem open_fr (gn nm pv : Nat) (a : Option Addr) (n c : Nat) (l : List (List UInt8)) (w : World) (hg : gn < 4294967296) (hnm : nm < 4294967296) (hpv : pv < 4294967296) (hrd : RdL w (.slice a n c) l) :
    Calls Try.prog 10 #[.int .u32 gn, .int .u32 nm, .int .u32 pv, .slice a n c] w fun e w' => ∃ v, e = .returned (.tuple #[v, .int .u32 (opnR gn nm pv l).2.1, .int .i64 (opnR gn nm pv l).2.2, .int .i64 (opnE gn nm pv l)]) ∧ OwB w' w.heap.size v (opnR gn nm pv l).1 ∧ Below w.heap.size w w' := by
  have HR := hide hrd
  have HG := hide (show gn < 4294967296 ∧ nm < 4294967296 ∧ pv < 4294967296 from ⟨hg, hnm, hpv⟩)
  clear hrd hg hnm hpv
  by_cases he : chkL l = 0
  · have HE := hide (show opnE gn nm pv l = if (opn gn nm pv l).2.2 = 0 then 6 else 0 by unfold opnE; rw [if_neg (fun h => h he)])
    have HV := hide (show opnR gn nm pv l = opn gn nm pv l by unfold opnR; rw [if_neg (fun h => h he)])
    have HC := hide he
    clear he
    go_enter Try.func10, Try.ntmps10
    go_wp2_with fail
    refine (check_fr a n c l _ HR.out).mono ?_
    rintro e w1 ⟨rfl, rfl⟩
    rw [HC.out]
    go_wp2_with fail
    refine (opened_any gn nm pv a n c l _ HG.out.1 HG.out.2.1 HG.out.2.2 HR.out (chkL_ok HC.out).1 (chkL_ok HC.out).2).mono ?_
    rintro e w2 ⟨v, rfl, hO, hb⟩
    have HO := hide hO
    clear hO
    by_cases hk : (opn gn nm pv l).2.2 = 0
    · have HZ := hide (opn_zeros hk)
      have HK := hide hk
      rw [hk]
      generalize (opn gn nm pv l).2.1 = s
      clear hk
      go_wp2
      refine bodyPost_ret (v := .tuple #[.slice none 0 0, .int .u32 0, .int .i64 0, .int .i64 6]) ?_ rfl ⟨.slice none 0 0, ?_, ?_, hb⟩
      · simp [results, Try.results10, go_sem]
      · rw [HE.out, if_pos HK.out, HV.out, HZ.out]; rfl
      · rw [HV.out, HZ.out]; exact World.ownsRow_nil _ _ _ _
    · obtain ⟨av, cv, rfl⟩ := HO.out.form
      have HK := hide hk
      obtain ⟨K, hK⟩ : ∃ K, K = (opn gn nm pv l).2.2 := ⟨_, rfl⟩
      obtain ⟨s, hs⟩ : ∃ s, s = (opn gn nm pv l).2.1 := ⟨_, rfl⟩
      obtain ⟨m, hm⟩ : ∃ m, m = (opn gn nm pv l).1.length := ⟨_, rfl⟩
      have HKS := hide (show opn gn nm pv l = ((opn gn nm pv l).1, s, K) by rw [hs, hK])
      rw [← hK, ← hs, ← hm]
      rw [← hK] at hk
      rw [← hm] at HO
      have hk' : ((K : Int) == 0) = false := by simpa using (by omega : ¬ (K : Int) = 0)
      clear hK hs hm hk
      go_wp2
      refine bodyPost_ret (v := .tuple #[.slice av m cv, .int .u32 s, .int .i64 K, .int .i64 0]) ?_ rfl ⟨.slice av m cv, ?_, ?_, hb⟩
      · simp [results, Try.results10, go_sem]
      · rw [HE.out, if_neg HK.out, HV.out, HKS.out]
      · rw [HV.out]; exact HO.out
  · have HE := hide (show opnE gn nm pv l = chkL l by unfold opnE; rw [if_pos he])
    have HV := hide (show opnR gn nm pv l = ([], 0, 0) by unfold opnR; rw [if_pos he])
    obtain ⟨E, hE⟩ : ∃ E, E = chkL l := ⟨_, rfl⟩
    have HEE := hide hE
    rw [← hE] at he
    have hne : (E != 0) = true := by simpa using he
    clear hE he
    go_enter Try.func10, Try.ntmps10
    go_wp2_with fail
    refine (check_fr a n c l _ HR.out).mono ?_
    rintro e w1 ⟨rfl, rfl⟩
    rw [← HEE.out]
    go_wp2
    refine bodyPost_ret (v := .tuple #[.slice none 0 0, .int .u32 0, .int .i64 0, .int .i64 E]) ?_ rfl ⟨.slice none 0 0, ?_, ?_, Below.refl _ _⟩
    · simp [results, Try.results10, go_sem]
    · rw [HE.out, HV.out, HEE.out]; rfl
    · rw [HV.out]; exact World.ownsRow_nil _ _ _ _

end Go.Proofs.Ytkhkdagdgbmdkaa
