/-
  What the document's own Free and Take do.
-/
import Derived.Test.YtkneeoglinhgdaaRmRef
namespace Go.Proofs.Ytkneeoglinhgdaa
open Go.RowKit
set_option linter.unusedVariables false
set_option linter.unusedSimpArgs false

theorem wrapP {k : Nat} (h : k < 1000000000) : wrap64 ((k : Int) + 1 - 1) = (k : Int) := by unfold wrap64; omega
set_option maxHeartbeats 4000000 in
set_option maxRecDepth 100000 in
theorem rFree_any (A B : Int) (a : Option Addr) (n c : Nat) (l : List Ex) (w : World) (hrd : RdE w (.slice a n c) l) (hn : n = l.length) (hwf : ∀ x ∈ l, wfX x) :
    Calls Try.prog 16 #[.int .i64 A, .int .i64 B, .slice a n c] w fun e w' => ∃ v, e = .returned (.tuple #[v, .int .i64 (freeE A B l)]) ∧ OwE w' w.heap.size v (freeL A B l) ∧ Below w.heap.size w w' := by
  have hnm : n ≤ maxLen := hn ▸ hrd.len_le
  have HR := hide hrd
  have HN := hide hn
  have HW := hide hwf
  clear hrd hn hwf
  by_cases h1 : A < 0
  · have HB := hide (freeE_bad (B := B) (l := l) (.inl h1 : A < 0 ∨ B < A ∨ 4096 < B))
    go_enter Try.func16, Try.ntmps16
    go_wp2
    go_ret2
    exact ⟨_, by rw [HB.out.1]; rfl, by rw [HB.out.2]; exact OwE.nil _ _, Below.refl _ _⟩
  have h1' : decide (A < 0) = false := by simpa using h1
  by_cases h2 : B < A
  · have HB := hide (freeE_bad (B := B) (l := l) (.inr (.inl h2) : A < 0 ∨ B < A ∨ 4096 < B))
    go_enter Try.func16, Try.ntmps16
    go_wp2
    go_ret2
    exact ⟨_, by rw [HB.out.1]; rfl, by rw [HB.out.2]; exact OwE.nil _ _, Below.refl _ _⟩
  have h2' : decide (B < A) = false := by simpa using h2
  by_cases h3 : 4096 < B
  · have HB := hide (freeE_bad (A := A) (l := l) (.inr (.inr h3) : A < 0 ∨ B < A ∨ 4096 < B))
    go_enter Try.func16, Try.ntmps16
    go_wp2
    go_ret2
    exact ⟨_, by rw [HB.out.1]; rfl, by rw [HB.out.2]; exact OwE.nil _ _, Below.refl _ _⟩
  have h3' : decide (4096 < B) = false := by simpa using h3
  obtain ⟨p, rfl⟩ : ∃ p : Nat, A = p := ⟨A.toNat, by omega⟩
  obtain ⟨m, hm⟩ : ∃ m : Nat, B = p + m := ⟨(B - p).toNat, by omega⟩
  have HE := hide (freeE_all (A := (p : Int)) (B := B) (l := l) (by omega))
  have HB := hide hm
  have hpm : p + m ≤ 4096 := by omega
  clear hm
  by_cases g1 : n > 4096
  · have HX := hide (show allX l = 4 by have := HN.out; unfold allX; rw [if_pos (by omega)])
    have HL := hide (freeL_all (A := (p : Int)) (B := B) (l := l) (by rw [HE.out, HX.out]; decide))
    have g1' : (4096 : Int) < n := by omega
    unfold maxLen at hnm
    go_enter Try.func16, Try.ntmps16
    go_wp2
    go_ret2
    exact ⟨_, by rw [HE.out, HX.out]; rfl, by rw [HL.out]; exact OwE.nil _ _, Below.refl _ _⟩
  have g1' : decide ((4096 : Int) < n) = false := by simpa using (by omega : ¬ (4096 : Int) < n)
  clear hnm
  go_enter Try.func16, Try.ntmps16
  go_wp2
  go_loopw [8] (fun i wr => ∃ k : Nat, k ≤ n ∧ i = .int .i64 k ∧ Hid (∀ x ∈ l.take k, mayX x = true) ∧ Below w.heap.size w wr) (fun i _ => n - (intOf i).toNat)
  case atStart => exact ⟨0, Nat.zero_le _, rfl, hide (by simp), Below.refl _ _⟩
  case round =>
    obtain ⟨k, hk, rfl, hall, hbel⟩ := hrel
    by_cases hlt : k < n
    · have hlt' : (k : Int) < n := by omega
      have hkl : k < l.length := by have := HN.out; omega
      have hw1 : wrap64 ((k : Int) + 1) = (k : Int) + 1 := wrapS (by omega)
      obtain ⟨b, off, e, q0, q1⟩ := (HR.out.carry hbel).at k hkl
      subst e
      go_wp2_with fail
      refine (rMay_any (l[k]) (HW.out _ (List.getElem_mem hkl)) _).mono ?_
      rintro e wc ⟨rfl, hbc⟩
      have hbc' : Below w.heap.size w wc := hbel.trans (hbc.mono hbel.size)
      clear hbc
      cases hp : mayX l[k] with
      | false =>
        have HX := hide (allX_bad hkl (by have := HN.out; omega) hp)
        have HL := hide (freeL_all (A := (p : Int)) (B := B) (l := l) (by rw [HE.out, HX.out]; decide))
        clear hp
        go_wp2
        go_ret2
        exact ⟨_, by rw [HE.out, HX.out]; rfl, by rw [HL.out]; exact OwE.nil _ _, hbc'⟩
      | true =>
        have HA := hide (show ∀ x ∈ l.take (k + 1), mayX x = true by
          intro x hx
          rw [take_snoc l k hkl] at hx
          rcases List.mem_append.1 hx with hx | hx
          · exact hall.out x hx
          · rw [List.mem_singleton.1 hx]; exact hp)
        clear hp
        go_wp2
        go_roundw
        case rel => exact ⟨k + 1, by omega, rfl, HA, hbc'⟩
        case measure => simp only [intOf]; omega
    · have hd : decide ((k : Int) < n) = false := by simpa using (by omega : ¬ (k : Int) < n)
      have e : k = l.length := by have := HN.out; omega
      have HX := hide (show allX l = 0 from allX_good (by have := HN.out; omega) (by rw [← e]; exact hall.out))
      have HMay := hide (fun x hx => (mayX_iff x).2 ((allX_ok HX.out).2 x hx) : ∀ x ∈ l, mayX x = true)
      clear e hall HW
      go_wp2
      go_loopw [9, 10] (fun v i wr => ∃ k : Nat, k ≤ m ∧ i = .int .i64 ((p : Int) + (k : Int)) ∧ Hid (OwE wr w.heap.size v (freeX (inL l) p k)) ∧ Below w.heap.size w wr) (fun _ i _ => (B - intOf i).toNat)
      case atStart => exact ⟨0, Nat.zero_le _, by simp, hide (OwE.nil _ _), hbel⟩
      case round =>
        obtain ⟨k, hk, rfl, ho, hbel⟩ := hrel
        by_cases hkm : k < m
        · have hkm' : (p : Int) + (k : Int) < B := by have := HB.out; omega
          have hwN : wrap64 ((p : Int) + (k : Int) + 1) = (p : Int) + (k : Int) + 1 := by unfold wrap64; omega
          have hlen := freeX_len (inL l) p k
          have HFM := hide (freeX_may (u := inL l) (a := p) (k := k) (by omega) (by omega))
          have HNext := hide (show freeX (inL l) p (k + 1) = if inL l ((p : Int) + (k : Int)) then freeX (inL l) p k else growX (freeX (inL l) p k) ((p : Int) + (k : Int)) from rfl)
          have hN0 : 0 ≤ (p : Int) + (k : Int) := by omega
          have hN1 : (p : Int) + (k : Int) < 4096 := by omega
          have HK1 := hide (show k + 1 ≤ m from hkm)
          obtain ⟨N, hNe⟩ : ∃ N : Int, N = (p : Int) + (k : Int) := ⟨_, rfl⟩
          rw [← hNe] at hkm' hwN HNext hN0 hN1
          have HNe := hide hNe
          rw [← hNe]
          clear hNe
          obtain ⟨L, hL⟩ : ∃ L, L = freeX (inL l) p k := ⟨_, rfl⟩
          rw [← hL] at ho hlen HFM HNext
          clear hL
          obtain ⟨a7, c7, rfl⟩ := ho.out.form
          generalize hq : L.length = q at *
          have HQ := hide hq
          clear hq
          go_wp2
          go_loopw [11, 12] (fun s i wr => ∃ j : Nat, j ≤ n ∧ i = .int .i64 j ∧ s = .bool (inL (l.take j) N) ∧ Hid (OwE wr w.heap.size (.slice a7 q c7) L) ∧ Below w.heap.size w wr) (fun _ i _ => n - (intOf i).toNat)
          case atStart => exact ⟨0, Nat.zero_le _, rfl, by simp [inL], ho, hbel⟩
          case round =>
            obtain ⟨j, hj, rfl, rfl, ho2, hbel2⟩ := hrel
            by_cases hjn : j < n
            · have hjn' : (j : Int) < n := by omega
              have hjl : j < l.length := by have := HN.out; omega
              have hw1 : wrap64 ((j : Int) + 1) = (j : Int) + 1 := wrapS (by omega)
              obtain ⟨b, off, e, q0, q1⟩ := (HR.out.carry hbel2).at j hjl
              subst e
              have HS := hide (show inL (l.take (j + 1)) N = (inL (l.take j) N || inX l[j] N) by rw [take_snoc l j hjl, inL_snoc])
              have hn4 : n ≤ 4096 := by omega
              clear hwN hN0 hN1 hlen hkm' h1 h1' h2 h2' h3 h3' g1 g1' hk hkm hpm
              cases hi : inL (l.take j) N with
              | true =>
                have HS1 := hide (show inL (l.take (j + 1)) N = true by rw [HS.out, hi]; rfl)
                clear hi
                go_wp2
                go_roundw
                case rel => exact ⟨j + 1, by omega, rfl, by rw [HS1.out], ho2, hbel2⟩
                case measure => simp only [intOf]; omega
              | false =>
                have HS1 := hide (show inL (l.take (j + 1)) N = inX l[j] N by rw [HS.out, hi]; simp)
                clear hi
                go_wp2_with fail
                refine (rIn_any (l[j]) (HMay.out _ (List.getElem_mem hjl)) N _).mono ?_
                rintro e wd ⟨rfl, hbd⟩
                have ho3 := hide (ho2.out.carry hbd)
                have hbd' := hbel2.trans (hbd.mono hbel2.size)
                clear hbd
                go_wp2
                go_roundw
                case rel => exact ⟨j + 1, by omega, rfl, by rw [HS1.out], ho3, hbd'⟩
                case measure => simp only [intOf]; omega
            · have hd : decide ((j : Int) < n) = false := by simpa using (by omega : ¬ (j : Int) < n)
              have HI := hide (show inL (l.take j) N = inL l N by rw [List.take_of_length_le (by have := HN.out; omega)])
              have hq4 : q ≤ 4096 := by omega
              clear h1 h1' h2 h2' h3 h3' g1 g1' hk hkm hpm hlen
              rw [HI.out]
              cases hi : inL l N with
              | true =>
                have HO := hide (show OwE wr w.heap.size (.slice a7 q c7) (freeX (inL l) p (k + 1)) by rw [HNext.out, hi, if_pos rfl]; exact ho2.out)
                clear hi
                go_wp2
                go_roundw
                case rel => exact ⟨k + 1, HK1.out, congrArg (Value.int .i64) (by have := HNe.out; omega), HO, hbel2⟩
                case measure => simp only [intOf]; omega
              | false =>
                have HG := hide (show freeX (inL l) p (k + 1) = growX L N by rw [HNext.out, hi]; rfl)
                have HRUN := hide (app_extN ho2.out hbel2.size (by have := HQ.out; omega) N 1)
                clear hi HNext
                cases q with
                | zero =>
                  have hL0 : L = [] := List.length_eq_zero_iff.1 HQ.out
                  have HG2 := hide (show freeX (inL l) p (k + 1) = L ++ [(N, 1)] by rw [HG.out, hL0]; rfl)
                  clear hL0 HG
                  go_wp2
                  go_quiet (fail)
                  obtain ⟨g9, c9, w9, hrun, hown9, hbel9⟩ := HRUN.out nq
                  rw [← HG2.out] at hown9
                  rw [HQ.out] at hown9 hrun
                  have HO := hide hown9
                  have hb9 := hbel2.trans hbel9
                  clear hown9 hbel9
                  go_wp2_with (at_builtin; refine wpList_runappE rfl (.tmp 90) (.tmp 93) 22 rfl rfl rfl rfl hrun ?_)
                  go_roundw
                  case rel => exact ⟨k + 1, HK1.out, congrArg (Value.int .i64) (by have := HNe.out; omega), HO, hb9⟩
                  case measure => simp only [intOf]; omega
                | succ t =>
                  have hz := HQ.out
                  obtain ⟨g, e, hbg, -, hnc, -⟩ := ho2.out.lies (by intro e; rw [e] at hz; simp at hz)
                  subst e
                  have htl : t < L.length := by omega
                  have hx := (mayX_iff _).1 (HFM.out _ (List.getElem_mem htl))
                  obtain ⟨b', off', e, c1, c2⟩ := ho2.out.rd.at t htl
                  cases e
                  rw [Nat.zero_add] at c1 c2
                  have fr := fun j => ho2.out.frozen HQ.out.symm j
                  obtain ⟨s1, g1⟩ := ho2.out.stored HQ.out.symm t htl ((L[t]).2 + 1)
                  have HW1 := hide (fun hN => (growX_set (N := N) htl hz.symm hN).trans HG.out.symm)
                  have HW2 := hide (fun hN => (growX_new (N := N) htl hz.symm hN).trans HG.out.symm)
                  have HS := hide s1
                  have HGr := hide g1
                  have HBG := hide hbg
                  have hw1 : wrap64 ((t : Int) + 1 - 1) = t := wrapP (by omega)
                  clear s1 g1 hz hbg HG
                  generalize hp : (L[t]).1 = P at *
                  generalize hq : (L[t]).2 = R at *
                  have hw2 : wrap64 (P + R) = P + R := by unfold wrap64; omega
                  have hwi2 : IntKind.i64.wrap (P + R) = P + R := by rw [IntKind.wrap_i64]; omega
                  have hw3 : wrap64 (R + 1) = R + 1 := by unfold wrap64; omega
                  have htc : (t : Int) < ((t + 1 : Nat) : Int) := by omega
                  clear hp hq
                  by_cases hNN : P + R = N
                  · have HE2 := hide (HW1.out hNN)
                    clear HW1 HW2 HRUN
                    go_wp2
                    go_quiet (fail)
                    go_wp2
                    go_roundw
                    case rel => exact ⟨k + 1, HK1.out, congrArg (Value.int .i64) (by have := HNe.out; omega), hide (by rw [← HE2.out]; exact HS.out), (below_drewN hbel2 _).setCell HBG.out _⟩
                    case measure => simp only [intOf]; omega
                  · have HE2 := hide (HW2.out hNN)
                    have hNN' : (P + R == N) = false := by simpa using hNN
                    clear HW1 HW2 HS HGr
                    go_wp2
                    go_quiet (fail)
                    obtain ⟨g9, c9, w9, hrun, hown9, hbel9⟩ := HRUN.out nq
                    rw [HE2.out] at hown9
                    rw [HQ.out] at hown9 hrun
                    have HO := hide hown9
                    have hb9 := hbel2.trans hbel9
                    clear hown9 hbel9
                    go_wp2_with (at_builtin; refine wpList_runappE rfl (.tmp 90) (.tmp 93) 22 rfl rfl rfl rfl hrun ?_)
                    go_roundw
                    case rel => exact ⟨k + 1, HK1.out, congrArg (Value.int .i64) (by have := HNe.out; omega), HO, hb9⟩
                    case measure => simp only [intOf]; omega
        · have hkm' : decide ((p : Int) + (k : Int) < B) = false := by have := HB.out; simpa using (by omega : ¬ (p : Int) + (k : Int) < B)
          have HO := hide (show OwE wr w.heap.size _ (freeL p B l) by
            have e : freeL p B l = freeX (inL l) p k := by
              unfold freeL
              rw [if_pos (by rw [HE.out, HX.out]), show (B - (p : Int)).toNat = k by have := HB.out; omega]
            rw [e]
            exact ho.out)
          go_wp2
          go_ret2
          exact ⟨_, by rw [HE.out, HX.out]; rfl, HO.out, hbel⟩

end Go.Proofs.Ytkneeoglinhgdaa
