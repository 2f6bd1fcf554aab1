/-
  A directory in new memory; bytes as whole blocks.
-/
import Derived.Test.YtmeaiocohalphaaGreatDoorFiRef3
import Derived.Test.YtmeaiocohalphaaGreatDoorRmKit
import Derived.ProofKit
import Derived.Deep.Slices
import Derived.Deep.Strs
import Derived.OpenShut
import Derived.Lib.SmallJoins
import Derived.Test.YtmeaiocohalphaaGreatDoorRead
import Derived.Test.YtmeaiocohalphaaGreatDoorFiApart
set_option maxHeartbeats 4000000
set_option maxRecDepth 100000
namespace Go.Proofs.YtmeaiocohalphaaGreatDoor
open Go.RowKit
set_option linter.unusedVariables false
set_option linter.unusedSimpArgs false
theorem wrapP {k : Nat} (h : k < 1000000000) : wrap64 ((k : Int) + 1 - 1) = (k : Int) := by unfold wrap64; omega
theorem rFree_any (A B : Int) (a : Option Addr) (n c : Nat) (l : List Ex) (w : World) (hrd : RdE w (.slice a n c) l) (hn : n = l.length) (hwf : ∀ x ∈ l, wfX x) :
  Calls Tryz.prog 195 #[.int .i64 A, .int .i64 B, .slice a n c] w fun e w' => ∃ v, e = .returned (.tuple #[v, .int .i64 (freeE A B l)]) ∧ OwE w' w.heap.size v (freeL A B l) ∧ Below w.heap.size w w' := by
 have hnm : n ≤ maxLen := hn ▸ hrd.len_le
 have HR := hide hrd
 have HN := hide hn
 have HW := hide hwf
 clear hrd hn hwf
 by_cases h1 : A < 0
 ·have HB := hide (freeE_bad (B := B) (l := l) (.inl h1 : A < 0 ∨ B < A ∨ 4096 < B))
  go_enter Tryz.func195, Tryz.ntmps195
  go_wp2
  go_ret2
  exact ⟨_, by rw [HB.out.1]; rfl, by rw [HB.out.2]; exact OwE.nil _ _, Below.refl _ _⟩
 have h1' : decide (A < 0) = false := by simpa using h1
 by_cases h2 : B < A
 ·have HB := hide (freeE_bad (B := B) (l := l) (.inr (.inl h2) : A < 0 ∨ B < A ∨ 4096 < B))
  go_enter Tryz.func195, Tryz.ntmps195
  go_wp2
  go_ret2
  exact ⟨_, by rw [HB.out.1]; rfl, by rw [HB.out.2]; exact OwE.nil _ _, Below.refl _ _⟩
 have h2' : decide (B < A) = false := by simpa using h2
 by_cases h3 : 4096 < B
 ·have HB := hide (freeE_bad (A := A) (l := l) (.inr (.inr h3) : A < 0 ∨ B < A ∨ 4096 < B))
  go_enter Tryz.func195, Tryz.ntmps195
  go_wp2
  go_ret2
  exact ⟨_, by rw [HB.out.1]; rfl, by rw [HB.out.2]; exact OwE.nil _ _, Below.refl _ _⟩
 have h3' : decide (4096 < B) = false := by simpa using h3
 obtain ⟨p, rfl⟩ : ∃ p : Nat, A = p := ⟨A.toNat, by omega⟩
 obtain ⟨m, hm⟩ : ∃ m : Nat, B = p + m := ⟨(B - p).toNat, by omega⟩
 have HE := hide (freeE_all (A := (p : Int)) (B := B) (l := l) (by omega))
 have HB := hide hm
 have hpm : p + m ≤ 4096 := by omega
 clear hm
 by_cases g1 : n > 4096
 ·have HX := hide (show allX l = 4 by have := HN.out; unfold allX; rw [if_pos (by omega)])
  have HL := hide (freeL_all (A := (p : Int)) (B := B) (l := l) (by rw [HE.out, HX.out]; decide))
  have g1' : (4096 : Int) < n := by omega
  unfold maxLen at hnm
  go_enter Tryz.func195, Tryz.ntmps195
  go_wp2
  go_ret2
  exact ⟨_, by rw [HE.out, HX.out]; rfl, by rw [HL.out]; exact OwE.nil _ _, Below.refl _ _⟩
 have g1' : decide ((4096 : Int) < n) = false := by simpa using (by omega : ¬ (4096 : Int) < n)
 clear hnm
 go_enter Tryz.func195, Tryz.ntmps195
 go_wp2
 go_loopw [8] (fun i wr => ∃ k : Nat, k ≤ n ∧ i = .int .i64 k ∧ Hid (∀ x ∈ l.take k, mayX x = true) ∧ Below w.heap.size w wr) (fun i _ => n - (intOf i).toNat)
 case atStart => exact ⟨0, Nat.zero_le _, rfl, hide (by simp), Below.refl _ _⟩
 case round =>
  obtain ⟨k, hk, rfl, hall, hbel⟩ := hrel
  by_cases hlt : k < n
  ·have hlt' : (k : Int) < n := by omega
   have hkl : k < l.length := by have := HN.out; omega
   have hw1 : wrap64 ((k : Int) + 1) = (k : Int) + 1 := wrapS (by omega)
   obtain ⟨b, off, e, q0, q1⟩ := (HR.out.carry hbel).at k hkl
   subst e
   go_wp2_with fail
   refine (rMay_any (l[k]) (HW.out _ (List.getElem_mem hkl)) _).mono ?_
   rintro e wc ⟨rfl, hbc⟩
   have hbc' : Below w.heap.size w wc := hbel.trans (hbc.mono hbel.size)
   clear hbc
   cases hp : mayX l[k] with
   | false =>
    have HX := hide (allX_bad hkl (by have := HN.out; omega) hp)
    have HL := hide (freeL_all (A := (p : Int)) (B := B) (l := l) (by rw [HE.out, HX.out]; decide))
    clear hp
    go_wp2
    go_ret2
    exact ⟨_, by rw [HE.out, HX.out]; rfl, by rw [HL.out]; exact OwE.nil _ _, hbc'⟩
   | true =>
    have HA := hide (show ∀ x ∈ l.take (k + 1), mayX x = true by
     intro x hx
     rw [take_snoc l k hkl] at hx
     rcases List.mem_append.1 hx with hx | hx
     ·exact hall.out x hx
     ·rw [List.mem_singleton.1 hx]; exact hp)
    clear hp
    go_wp2
    go_roundw
    case rel => exact ⟨k + 1, by omega, rfl, HA, hbc'⟩
    case measure => simp only [intOf]; omega
  ·have hd : decide ((k : Int) < n) = false := by simpa using (by omega : ¬ (k : Int) < n)
   have e : k = l.length := by have := HN.out; omega
   have HX := hide (show allX l = 0 from allX_good (by have := HN.out; omega) (by rw [← e]; exact hall.out))
   have HMay := hide (fun x hx => (mayX_iff x).2 ((allX_ok HX.out).2 x hx) : ∀ x ∈ l, mayX x = true)
   clear e hall HW
   go_wp2
   go_loopw [9, 10] (fun v i wr => ∃ k : Nat, k ≤ m ∧ i = .int .i64 ((p : Int) + (k : Int)) ∧ Hid (OwE wr w.heap.size v (freeX (inL l) p k)) ∧ Below w.heap.size w wr) (fun _ i _ => (B - intOf i).toNat)
   case atStart => exact ⟨0, Nat.zero_le _, by simp, hide (OwE.nil _ _), hbel⟩
   case round =>
    obtain ⟨k, hk, rfl, ho, hbel⟩ := hrel
    by_cases hkm : k < m
    ·have hkm' : (p : Int) + (k : Int) < B := by have := HB.out; omega
     have hwN : wrap64 ((p : Int) + (k : Int) + 1) = (p : Int) + (k : Int) + 1 := by unfold wrap64; omega
     have hlen := freeX_len (inL l) p k
     have HFM := hide (freeX_may (u := inL l) (a := p) (k := k) (by omega) (by omega))
     have HNext := hide (show freeX (inL l) p (k + 1) = if inL l ((p : Int) + (k : Int)) then freeX (inL l) p k else growX (freeX (inL l) p k) ((p : Int) + (k : Int)) from rfl)
     have hN0 : 0 ≤ (p : Int) + (k : Int) := by omega
     have hN1 : (p : Int) + (k : Int) < 4096 := by omega
     have HK1 := hide (show k + 1 ≤ m from hkm)
     obtain ⟨N, hNe⟩ : ∃ N : Int, N = (p : Int) + (k : Int) := ⟨_, rfl⟩
     rw [← hNe] at hkm' hwN HNext hN0 hN1
     have HNe := hide hNe
     rw [← hNe]
     clear hNe
     obtain ⟨L, hL⟩ : ∃ L, L = freeX (inL l) p k := ⟨_, rfl⟩
     rw [← hL] at ho hlen HFM HNext
     clear hL
     obtain ⟨a7, c7, rfl⟩ := ho.out.form
     generalize hq : L.length = q at *
     have HQ := hide hq
     clear hq
     go_wp2
     go_loopw [11, 12] (fun s i wr => ∃ j : Nat, j ≤ n ∧ i = .int .i64 j ∧ s = .bool (inL (l.take j) N) ∧ Hid (OwE wr w.heap.size (.slice a7 q c7) L) ∧ Below w.heap.size w wr) (fun _ i _ => n - (intOf i).toNat)
     case atStart => exact ⟨0, Nat.zero_le _, rfl, by simp [inL], ho, hbel⟩
     case round =>
      obtain ⟨j, hj, rfl, rfl, ho2, hbel2⟩ := hrel
      by_cases hjn : j < n
      ·have hjn' : (j : Int) < n := by omega
       have hjl : j < l.length := by have := HN.out; omega
       have hw1 : wrap64 ((j : Int) + 1) = (j : Int) + 1 := wrapS (by omega)
       obtain ⟨b, off, e, q0, q1⟩ := (HR.out.carry hbel2).at j hjl
       subst e
       have HS := hide (show inL (l.take (j + 1)) N = (inL (l.take j) N || inX l[j] N) by rw [take_snoc l j hjl, inL_snoc])
       have hn4 : n ≤ 4096 := by omega
       clear hwN hN0 hN1 hlen hkm' h1 h1' h2 h2' h3 h3' g1 g1' hk hkm hpm
       cases hi : inL (l.take j) N with
       | true =>
        have HS1 := hide (show inL (l.take (j + 1)) N = true by rw [HS.out, hi]; rfl)
        clear hi
        go_wp2
        go_roundw
        case rel => exact ⟨j + 1, by omega, rfl, by rw [HS1.out], ho2, hbel2⟩
        case measure => simp only [intOf]; omega
       | false =>
        have HS1 := hide (show inL (l.take (j + 1)) N = inX l[j] N by rw [HS.out, hi]; simp)
        clear hi
        go_wp2_with fail
        refine (rIn_any (l[j]) (HMay.out _ (List.getElem_mem hjl)) N _).mono ?_
        rintro e wd ⟨rfl, hbd⟩
        have ho3 := hide (ho2.out.carry hbd)
        have hbd' := hbel2.trans (hbd.mono hbel2.size)
        clear hbd
        go_wp2
        go_roundw
        case rel => exact ⟨j + 1, by omega, rfl, by rw [HS1.out], ho3, hbd'⟩
        case measure => simp only [intOf]; omega
      ·have hd : decide ((j : Int) < n) = false := by simpa using (by omega : ¬ (j : Int) < n)
       have HI := hide (show inL (l.take j) N = inL l N by rw [List.take_of_length_le (by have := HN.out; omega)])
       have hq4 : q ≤ 4096 := by omega
       clear h1 h1' h2 h2' h3 h3' g1 g1' hk hkm hpm hlen
       rw [HI.out]
       cases hi : inL l N with
       | true =>
        have HO := hide (show OwE wr w.heap.size (.slice a7 q c7) (freeX (inL l) p (k + 1)) by rw [HNext.out, hi, if_pos rfl]; exact ho2.out)
        clear hi
        go_wp2
        go_roundw
        case rel => exact ⟨k + 1, HK1.out, congrArg (Value.int .i64) (by have := HNe.out; omega), HO, hbel2⟩
        case measure => simp only [intOf]; omega
       | false =>
        have HG := hide (show freeX (inL l) p (k + 1) = growX L N by rw [HNext.out, hi]; rfl)
        have HRUN := hide (app_extN ho2.out hbel2.size (by have := HQ.out; omega) N 1)
        clear hi HNext
        cases q with
        | zero =>
         have hL0 : L = [] := List.length_eq_zero_iff.1 HQ.out
         have HG2 := hide (show freeX (inL l) p (k + 1) = L ++ [(N, 1)] by rw [HG.out, hL0]; rfl)
         clear hL0 HG
         go_wp2
         go_quiet (fail)
         obtain ⟨g9, c9, w9, hrun, hown9, hbel9⟩ := HRUN.out nq
         rw [← HG2.out] at hown9
         rw [HQ.out] at hown9 hrun
         have HO := hide hown9
         have hb9 := hbel2.trans hbel9
         clear hown9 hbel9
         go_wp2_with (at_builtin; refine wpList_runappE rfl (.tmp 90) (.tmp 93) 96 rfl rfl rfl rfl hrun ?_)
         go_roundw
         case rel => exact ⟨k + 1, HK1.out, congrArg (Value.int .i64) (by have := HNe.out; omega), HO, hb9⟩
         case measure => simp only [intOf]; omega
        | succ t =>
         have hz := HQ.out
         obtain ⟨g, e, hbg, -, hnc, -⟩ := ho2.out.lies (by intro e; rw [e] at hz; simp at hz)
         subst e
         have htl : t < L.length := by omega
         have hx := (mayX_iff _).1 (HFM.out _ (List.getElem_mem htl))
         obtain ⟨b', off', e, c1, c2⟩ := ho2.out.rd.at t htl
         cases e
         rw [Nat.zero_add] at c1 c2
         have fr := fun j => ho2.out.frozen HQ.out.symm j
         obtain ⟨s1, g1⟩ := ho2.out.stored HQ.out.symm t htl ((L[t]).2 + 1)
         have HW1 := hide (fun hN => (growX_set (N := N) htl hz.symm hN).trans HG.out.symm)
         have HW2 := hide (fun hN => (growX_new (N := N) htl hz.symm hN).trans HG.out.symm)
         have HS := hide s1
         have HGr := hide g1
         have HBG := hide hbg
         have hw1 : wrap64 ((t : Int) + 1 - 1) = t := wrapP (by omega)
         clear s1 g1 hz hbg HG
         generalize hp : (L[t]).1 = P at *
         generalize hq : (L[t]).2 = R at *
         have hw2 : wrap64 (P + R) = P + R := by unfold wrap64; omega
         have hwi2 : IntKind.i64.wrap (P + R) = P + R := by rw [IntKind.wrap_i64]; omega
         have hw3 : wrap64 (R + 1) = R + 1 := by unfold wrap64; omega
         have htc : (t : Int) < ((t + 1 : Nat) : Int) := by omega
         clear hp hq
         by_cases hNN : P + R = N
         ·have HE2 := hide (HW1.out hNN)
          clear HW1 HW2 HRUN
          go_wp2
          go_quiet (fail)
          go_wp2
          go_roundw
          case rel => exact ⟨k + 1, HK1.out, congrArg (Value.int .i64) (by have := HNe.out; omega), hide (by rw [← HE2.out]; exact HS.out), (below_drewN hbel2 _).setCell HBG.out _⟩
          case measure => simp only [intOf]; omega
         ·have HE2 := hide (HW2.out hNN)
          have hNN' : (P + R == N) = false := by simpa using hNN
          clear HW1 HW2 HS HGr
          go_wp2
          go_quiet (fail)
          obtain ⟨g9, c9, w9, hrun, hown9, hbel9⟩ := HRUN.out nq
          rw [HE2.out] at hown9
          rw [HQ.out] at hown9 hrun
          have HO := hide hown9
          have hb9 := hbel2.trans hbel9
          clear hown9 hbel9
          go_wp2_with (at_builtin; refine wpList_runappE rfl (.tmp 90) (.tmp 93) 96 rfl rfl rfl rfl hrun ?_)
          go_roundw
          case rel => exact ⟨k + 1, HK1.out, congrArg (Value.int .i64) (by have := HNe.out; omega), HO, hb9⟩
          case measure => simp only [intOf]; omega
    ·have hkm' : decide ((p : Int) + (k : Int) < B) = false := by have := HB.out; simpa using (by omega : ¬ (p : Int) + (k : Int) < B)
     have HO := hide (show OwE wr w.heap.size _ (freeL p B l) by
      have e : freeL p B l = freeX (inL l) p k := by
       unfold freeL
       rw [if_pos (by rw [HE.out, HX.out]), show (B - (p : Int)).toNat = k by have := HB.out; omega]
      rw [e]
      exact ho.out)
     go_wp2
     go_ret2
     exact ⟨_, by rw [HE.out, HX.out]; rfl, HO.out, hbel⟩
def TkSt (L : List Ex) (W : Int) (i : Nat) (Z : Int) (O : List Ex) : Prop := (Z = W - manyX (L.take i) ∧ 1 ≤ Z ∧ O = L.take i) ∨ (Z = 0 ∧ cutX L W = some O)
theorem TkSt.last {L : List Ex} {W Z : Int} {i : Nat} {O : List Ex} (h : TkSt L W i Z O) (hi : i < L.length) (hz : 0 < Z) (hp : ∀ x ∈ L, 1 ≤ x.2) (hle : Z ≤ (L[i]).2) : TkSt L W (i + 1) 0 (O ++ [((L[i]).1, Z)]) := by
 rcases h with ⟨h1, h2, rfl⟩ | ⟨h1, _⟩
 ·refine .inr ⟨rfl, ?_⟩
  rw [cutX_here (w := W) hi (by omega) hp (by omega), h1]
 ·omega
theorem TkSt.more {L : List Ex} {W Z : Int} {i : Nat} {O : List Ex} (h : TkSt L W i Z O) (hi : i < L.length) (hz : 0 < Z) (hlt : (L[i]).2 < Z) : TkSt L W (i + 1) (Z - (L[i]).2) (O ++ [((L[i]).1, (L[i]).2)]) := by
 rcases h with ⟨h1, h2, rfl⟩ | ⟨h1, _⟩
 ·refine .inl ⟨?_, by omega, ?_⟩
  ·rw [take_snoc L i hi, manyX_snoc]; omega
  ·rw [take_snoc L i hi]
 ·omega
theorem rTake_any (A B W : Int) (a : Option Addr) (n c : Nat) (l : List Ex) (w : World) (hrd : RdE w (.slice a n c) l) (hn : n = l.length) (hwf : ∀ x ∈ l, wfX x) :
  Calls Tryz.prog 122 #[.int .i64 A, .int .i64 B, .slice a n c, .int .i64 W] w fun e w' => ∃ v, e = .returned (.tuple #[v, .int .i64 (takeE A B l W)]) ∧ OwE w' w.heap.size v (takeL A B l W) ∧ Below w.heap.size w w' := by
 have HF := hide (rFree_any A B a n c l w hrd hn hwf)
 clear hrd hn hwf
 go_enter Tryz.func122, Tryz.ntmps122
 go_wp2_with fail
 refine HF.out.mono ?_
 rintro e wa ⟨v, rfl, hown, hba⟩
 have HO := hide hown
 obtain ⟨av, cv, rfl⟩ := hown.form
 clear hown HF
 by_cases hz : freeE A B l = 0
 ·by_cases hw1 : W < 1
  ·have HT := hide (takeE_arg hz (.inl hw1 : W < 1 ∨ 4096 < W))
   rw [hz]
   clear hz
   go_wp2
   go_ret2
   exact ⟨_, by rw [HT.out.1]; rfl, by rw [HT.out.2]; exact OwE.nil _ _, hba⟩
  ·have hw1' : decide (W < 1) = false := by simpa using hw1
   by_cases hw2 : 4096 < W
   ·have HT := hide (takeE_arg hz (.inr hw2 : W < 1 ∨ 4096 < W))
    rw [hz]
    clear hz
    go_wp2
    go_ret2
    exact ⟨_, by rw [HT.out.1]; rfl, by rw [HT.out.2]; exact OwE.nil _ _, hba⟩
   ·have hw2' : decide (4096 < W) = false := by simpa using hw2
    obtain ⟨r1, r2, r3⟩ := freeL_rise hz
    obtain ⟨f1, f2, f3, f4⟩ := freeE_ok hz
    have HR := hide (fun x hx => by have := r1.1 x hx; omega : ∀ x ∈ freeL A B l, 0 ≤ x.1 ∧ 1 ≤ x.2 ∧ x.1 + x.2 ≤ 4096)
    have HP := hide (fun x hx => (HR.out x hx).2.1 : ∀ x ∈ freeL A B l, 1 ≤ x.2)
    have HTS := hide (fun r hc => takeE_some hz (by omega) (by omega) hc : ∀ r, cutX (freeL A B l) W = some r → takeE A B l W = 0 ∧ takeL A B l W = r)
    have HTN := hide (fun hc => takeE_none hz (by omega) (by omega) hc : cutX (freeL A B l) W = none → takeE A B l W = 40 ∧ takeL A B l W = [])
    rw [hz]
    clear hz r1 r2 f1 f2 f3 f4
    generalize freeL A B l = L at *
    generalize hm : L.length = m at *
    have HM := hide hm
    have hws := hba.size
    have HRd := hide HO.out.rd
    have HW1 := hide (show (1 : Int) ≤ W by omega)
    have HW2 := hide (show W ≤ 4096 by omega)
    clear hm
    go_wp2
    go_loopw [3, 12, 13] (fun z v i wr => ∃ (j : Nat) (Z : Int) (O : List Ex), j ≤ m ∧ i = .int .i64 j ∧ z = .int .i64 Z ∧ Hid (OwE wr wa.heap.size v O) ∧ Hid (TkSt L W j Z O) ∧ 0 ≤ Z ∧ Z ≤ 4096 ∧ O.length ≤ j ∧ Below wa.heap.size wa wr) (fun _ _ i _ => m - (intOf i).toNat)
    case atStart => exact ⟨0, W, [], Nat.zero_le _, rfl, rfl, hide (OwE.nil _ _), hide (.inl ⟨by simp [manyX], HW1.out, by simp⟩), by have := HW1.out; omega, HW2.out, by simp, Below.refl _ _⟩
    case round =>
     obtain ⟨j, Z, O, hj, rfl, rfl, ho, hst, hz0, hz4, hol, hbel⟩ := hrel
     by_cases hjm : j < m
     ·have hjm' : (j : Int) < m := by omega
      have hjl : j < L.length := by have := HM.out; omega
      by_cases hzp : 0 < Z
      ·obtain ⟨b, off, e, q0, q1⟩ := (HRd.out.carry hbel).at j hjl
       subst e
       have hx := HR.out _ (List.getElem_mem hjl)
       have hw3 : wrap64 ((j : Int) + 1) = (j : Int) + 1 := wrapS (by omega)
       obtain ⟨av2, cv2, rfl⟩ := ho.out.form
       generalize hq : O.length = q at *
       have HQ := hide hq
       by_cases hle : Z ≤ (L[j]).2
       ·have HS := hide (hst.out.last hjl hzp HP.out hle)
        obtain ⟨g9, c9, w9, hrun, hown9, hbel9⟩ := app_ext ho.out hbel.size (by omega) (L[j]).1 Z
        rw [hq] at hrun hown9
        have HO9 := hide hown9
        have hb9 := hbel.trans hbel9
        have hmin : (if Z < (L[j]).2 then Z else (L[j]).2) = Z := by split <;> omega
        have hmin2 : (if (L[j]).2 < Z then (L[j]).2 else Z) = Z := by split <;> omega
        have hmin3 : min Z (L[j]).2 = Z := by omega
        have hlen : (O ++ [((L[j]).1, Z)]).length ≤ j + 1 := by simp; omega
        clear hown9 hbel9 hq
        go_wp2_with (at_builtin; refine wpList_runappE rfl (.tmp 48) (.tmp 56) 96 rfl rfl rfl rfl hrun ?_)
        go_roundw
        case rel => exact ⟨j + 1, 0, _, by omega, rfl, by simp, HO9, HS, by omega, by omega, hlen, hb9⟩
        case measure => simp only [intOf]; omega
       ·have HS := hide (hst.out.more hjl hzp (by omega))
        obtain ⟨g9, c9, w9, hrun, hown9, hbel9⟩ := app_ext ho.out hbel.size (by omega) (L[j]).1 (L[j]).2
        rw [hq] at hrun hown9
        have HO9 := hide hown9
        have hb9 := hbel.trans hbel9
        have hmin3 : min Z (L[j]).2 = (L[j]).2 := by omega
        have hlen : (O ++ [((L[j]).1, (L[j]).2)]).length ≤ j + 1 := by simp; omega
        clear hown9 hbel9 hq
        go_wp2_with (at_builtin; refine wpList_runappE rfl (.tmp 48) (.tmp 56) 96 rfl rfl rfl rfl hrun ?_)
        go_roundw
        case rel => exact ⟨j + 1, _, _, by omega, rfl, rfl, HO9, HS, by omega, by omega, hlen, hb9⟩
        case measure => simp only [intOf]; omega
      ·have hzp' : decide (0 < Z) = false := by simpa using hzp
       have HC := hide (show cutX L W = some O by
        rcases hst.out with ⟨_, h, _⟩ | ⟨_, h⟩
        ·omega
        ·exact h)
       have HT := hide (HTS.out _ HC.out)
       go_wp2
       go_ret2
       exact ⟨_, by rw [HT.out.1]; rfl, by rw [HT.out.2]; exact ho.out.mono hws, hba.trans (hbel.mono hws)⟩
     ·have hd : decide ((j : Int) < m) = false := by simpa using (by omega : ¬ (j : Int) < m)
      by_cases hzp : 0 < Z
      ·have HC := hide (show cutX L W = none by
        rcases hst.out with ⟨h1, h, _⟩ | ⟨h, _⟩
        ·rw [List.take_of_length_le (by have := HM.out; omega)] at h1
         exact cutX_end (by omega) HP.out
        ·omega)
       have HT := hide (HTN.out HC.out)
       go_wp2
       go_ret2
       exact ⟨_, by rw [HT.out.1]; rfl, by rw [HT.out.2]; exact OwE.nil _ _, hba.trans (hbel.mono hws)⟩
      ·have hzp' : decide (0 < Z) = false := by simpa using hzp
       have HC := hide (show cutX L W = some O by
        rcases hst.out with ⟨_, h, _⟩ | ⟨_, h⟩
        ·omega
        ·exact h)
       have HT := hide (HTS.out _ HC.out)
       go_wp2
       go_ret2
       exact ⟨_, by rw [HT.out.1]; rfl, by rw [HT.out.2]; exact ho.out.mono hws, hba.trans (hbel.mono hws)⟩
 ·have HT := hide (takeE_free (w := W) hz)
  generalize hE : freeE A B l = E at *
  have hz' : (E == 0) = false := by simpa using hz
  go_wp2
  go_ret2
  exact ⟨_, by rw [HT.out.1]; rfl, by rw [HT.out.2]; exact OwE.nil _ _, hba⟩
end Go.Proofs.YtmeaiocohalphaaGreatDoor
namespace Go.Proofs.YtmeaiocohalphaaGreatDoor
open Go.RowKit Go.Deep
set_option linter.unusedVariables false
set_option linter.unusedSimpArgs false
theorem Tryz.cellsInE : Tryz.prog.cellsOf 3 = 1 := by kernel_rfl
theorem Tryz.cellsExE : Tryz.prog.cellsOf 237 = 2 := by kernel_rfl
theorem open_exts {H : Type} {enc : TypeId × Value → H} {W : World} {base : Nat} {spare : Nat → Bool} {held : Bool} {fuel : Nat} {u : Value} {x : DataW H × List MemPlace}
  (h : DataW.trod enc Tryz.prog W base spare held fuel 96 [u] = some x) : ∃ l : List Ex, RdE W u l ∧ ∀ x ∈ l, wfX x := by
 rcases open_slice Tryz.underlying96 h with ⟨hcs, _⟩ | ⟨ad, len, cap, m, n, D, Pl, hcs, _, hl, hm, hmm, _, hx⟩
 ·simp at hcs
  subst hcs
  exact ⟨[], .inl ⟨rfl, .inl rfl⟩, by simp⟩
 ·simp at hcs
  subst hcs
  by_cases h0 : len = 0
  ·subst h0
   exact ⟨[], .inl ⟨rfl, .inr ⟨_, _, rfl⟩⟩, by simp⟩
  have hlm : len ≤ m := by rw [hmm]; split <;> omega
  rw [Tryz.cellsExE] at hx
  have each : ∀ i, i < len → ∃ p : Ex, W.cell? (ad.add (i * 2)) = some (.int .i64 p.1) ∧ W.cell? ((ad.add (i * 2)).add 1) = some (.int .i64 p.2) ∧ wfX p := by
   intro i hi
   obtain ⟨cs', h1, h2⟩ := hx i (by omega)
   obtain ⟨_, hlen, hcell⟩ := World.cells?_some h1
   obtain ⟨y0, y1, k, _, _, g0, g1⟩ := Go.ChangeShapes.trod_struct2 Tryz.underlying237 h2
   match cs', hlen with
   | [c0, c1], _ =>
    simp only [Tryz.cellsInE, List.drop_zero, List.drop_succ_cons, List.take_succ_cons, List.take_zero] at g0 g1
    obtain ⟨n0, e0, _, hw0⟩ := DataW.trod_int Tryz.underlying3 g0
    obtain ⟨n1, e1, _, hw1⟩ := DataW.trod_int Tryz.underlying3 g1
    simp at e0 e1
    subst e0 e1
    obtain ⟨b0, b1⟩ := bounds_i64 hw0
    obtain ⟨b2, b3⟩ := bounds_i64 hw1
    have k0 := hcell 0 (by omega)
    have k1 := hcell 1 (by omega)
    refine ⟨(n0, n1), ?_, ?_, by dsimp only [wfX]; omega⟩
    ·rw [show ad.add (i * 2) = (ad.add (i * 2)).add 0 by simp [Addr.add]]; simpa using k0
    ·rw [k1]; simp
  obtain ⟨f, hf⟩ := choose_lt each
  have hspot : ∃ b off, ad = ⟨b, off, none⟩ := by
   obtain ⟨b, off, spot⟩ := ad
   have := World.cell?_spot (hf 0 (by omega)).1
   have hs : spot = none := by simpa [Addr.add] using this
   subst hs
   exact ⟨b, off, rfl⟩
  obtain ⟨b, off, rfl⟩ := hspot
  refine ⟨(List.range len).map f, .inr ⟨b, off, cap, by simp, by simpa using hl, hm, fun j hj => ?_⟩, fun x hx => ?_⟩
  ·have hj' : j < len := by simpa using hj
   have := hf j hj'
   rw [Addr.add_lit, Addr.add_lit] at this
   simpa using ⟨this.1, this.2.1⟩
  ·simp only [List.mem_map, List.mem_range] at hx
   obtain ⟨j, hj, rfl⟩ := hx
   exact (hf j hj).2.2
end Go.Proofs.YtmeaiocohalphaaGreatDoor
namespace Go.Proofs.YtmeaiocohalphaaGreatDoor
open Go.RowKit
set_option linter.unusedVariables false
set_option linter.unusedSimpArgs false
theorem freeL_len (A B : Int) (l : List Ex) : (freeL A B l).length ≤ 4096 := by
 by_cases h : freeE A B l = 0
 ·exact (freeL_rise h).2.2
 ·rw [freeL_all h]; simp
theorem cutX_len : ∀ (l : List Ex) (w : Int) (r : List Ex), cutX l w = some r → r.length ≤ l.length
 | [], w, r, h => by cases h
 | x :: l, w, r, h => by
  rw [cutX_cons] at h
  split at h
  ·cases h; simp
  ·rw [Option.map_eq_some_iff] at h
   obtain ⟨r', h1, rfl⟩ := h
   have := cutX_len l _ r' h1
   simp; omega
theorem takeL_len (A B : Int) (l : List Ex) (w : Int) : (takeL A B l w).length ≤ 4096 := by
 unfold takeL
 split
 ·simp
 ·split
  ·simp
  ·cases h : cutX (freeL A B l) w with
   | none => simp
   | some r =>
    have := cutX_len _ _ _ h
    have := freeL_len A B l
    simp only [Option.getD_some]; omega
theorem mk_fs (x : FsV) (f : Fsd) (s : List UInt8) (n : Int) (w : World) (h : RdX w x f) (hw : WfX f) :
  Calls Tryz.prog 98 #[x.val, .string (bs s), .int .i64 n] w fun e w' => ∃ v, e = .returned (.tuple #[.agg #[v], .int .i64 (mkE f s n)]) ∧ OwF w' w.heap.size v (mkL f s n) ∧ Below w.heap.size w w' := by
 have HW := hide hw
 clear hw
 obtain ⟨w1, ew⟩ : ∃ w1, (w.alloc (.cells x.cs 33)).alloc (.cells #[.slice none 0 0] 31) = w1 := ⟨_, rfl⟩
 have hb0 : Below w.heap.size w (w.alloc (.cells x.cs 33)) := (Below.refl _ _).alloc (Nat.le_refl _) _
 have hb1 : Below w.heap.size w w1 := by rw [← ew]; exact hb0.alloc (by simp) _
 have HF_w1 := hide (show FsAt w1 w.heap.size x by rw [← ew]; exact (Bq.new w 33 x.cs).carry ((Below.refl _ _).alloc (Nat.le_refl _) _))
 have HD_w1 := hide (show BlkD w1 (w.heap.size + 1) by
  have := BlkD.new (w.alloc (.cells x.cs 33)) (.slice none 0 0)
  rw [← ew]; simpa using this)
 obtain ⟨k0, k1, k2, k3, k4, k5⟩ := fs_cells HF_w1.out
 have HX := hide h
 have HB_w1 := hide hb1
 clear h hb1 hb0
 unfold FsV.val
 unfold FsV.cs at ew
 go_enter Tryz.func98, Tryz.ntmps98
 go_wp2_with fail
 refine (find_any _ _ _ f.2.2.1 s w1 (HX.out.fl.carry HB_w1.out) HX.out.n4 HW.out.fl).mono ?_
 rintro e w2 ⟨v2, rfl, ho2, hb2⟩
 have HF_w2 := hide (HF_w1.out.carry hb2)
 have HD_w2 := hide (HD_w1.out.carry hb2)
 have HB_w2 := hide (show Below w.heap.size w w2 from HB_w1.out.trans (hb2.mono HB_w1.out.size))
 clear k0 k1 k2 k3 k4 k5 ew hb2
 obtain ⟨m2, hm2⟩ : ∃ m2, m2 = (findV f.2.2.1 s).2.length := ⟨_, rfl⟩
 obtain ⟨y2, z2, e2⟩ : ∃ a c, v2 = .slice a m2 c := by rw [hm2]; exact ho2.form
 subst e2
 clear ho2 hm2
 obtain ⟨n9, hn9⟩ : ∃ n9, n9 = (findV f.2.2.1 s).1 := ⟨_, rfl⟩
 rw [← hn9]
 clear hn9
 obtain ⟨w3, ew3⟩ : ∃ w3, w2.alloc (.cells #[.string (bs n9), .slice y2 m2 z2] 98) = w3 := ⟨_, rfl⟩
 have hb3 : Below w2.heap.size w2 w3 := by rw [← ew3]; exact (Below.refl _ _).alloc (Nat.le_refl _) _
 have HF_w3 := hide (HF_w2.out.carry hb3)
 have HD_w3 := hide (HD_w2.out.carry hb3)
 have HB_w3 := hide (show Below w.heap.size w w3 from HB_w2.out.trans (hb3.mono HB_w2.out.size))
 clear hb3
 obtain ⟨te, hte⟩ : ∃ te, te = thereE f.2.2.1 s := ⟨_, rfl⟩
 rw [← hte]
 by_cases g1 : te = 0
 ·have HE := hide (show mkE f s n = 51 by unfold mkE; rw [if_pos (by rw [← hte]; exact g1)])
  have HL := hide (show mkL f s n = [] by unfold mkL; rw [if_neg (by rw [HE.out]; decide)])
  subst g1
  clear hte
  have hc := HD_w3.out.cell
  have hf := HD_w3.out.fz
  obtain ⟨z0, hg, -⟩ := HD_w3.out.put (.slice none 0 0)
  obtain ⟨y, hy⟩ := HD_w3.out
  have HOR := hide (show OwF (w3.setCell ⟨w.heap.size + 1, 0, none⟩ (.slice none 0 0)) w.heap.size (.slice none 0 0) _ from OwF.nil _ _)
  have HBR := hide (HB_w3.out.grown hg HB_w3.out.size (by intro k hk; cases hk; omega))
  clear hy hg
  go_wp2
  obtain ⟨w9, hw9⟩ : ∃ w9, w9 = w3.setCell ⟨w.heap.size + 1, 0, none⟩ (.slice none 0 0) := ⟨_, rfl⟩
  rw [← hw9] at z0 HOR HBR ⊢
  try simp only [Exit.inBlock, Exit.then]
  refine bodyPost_ret (v := .tuple #[.agg #[.slice none 0 0], .int .i64 51]) ?_ rfl ⟨.slice none 0 0, by rw [HE.out], by rw [HL.out]; exact HOR.out, HBR.out⟩
  clear hw9 hc hf
  simp [results, Tryz.results98, go_sem, *]
 by_cases g2 : ¬ te = 6
 ·have HE := hide (show mkE f s n = te by unfold mkE; rw [if_neg (by rw [← hte]; exact g1), if_pos (by rw [← hte]; exact g2), ← hte])
  have HL := hide (show mkL f s n = [] by unfold mkL; rw [if_neg (by rw [HE.out]; exact g1)])
  clear hte
  have hc := HD_w3.out.cell
  have hf := HD_w3.out.fz
  obtain ⟨z0, hg, -⟩ := HD_w3.out.put (.slice none 0 0)
  obtain ⟨y, hy⟩ := HD_w3.out
  have HOR := hide (show OwF (w3.setCell ⟨w.heap.size + 1, 0, none⟩ (.slice none 0 0)) w.heap.size (.slice none 0 0) _ from OwF.nil _ _)
  have HBR := hide (HB_w3.out.grown hg HB_w3.out.size (by intro k hk; cases hk; omega))
  clear hy hg
  go_wp2
  obtain ⟨w9, hw9⟩ : ∃ w9, w9 = w3.setCell ⟨w.heap.size + 1, 0, none⟩ (.slice none 0 0) := ⟨_, rfl⟩
  rw [← hw9] at z0 HOR HBR ⊢
  try simp only [Exit.inBlock, Exit.then]
  refine bodyPost_ret (v := .tuple #[.agg #[.slice none 0 0], .int .i64 te]) ?_ rfl ⟨.slice none 0 0, by rw [HE.out], by rw [HL.out]; exact HOR.out, HBR.out⟩
  clear hw9 hc hf
  simp [results, Tryz.results98, go_sem, *]
 rw [Decidable.not_not] at g2
 have HE := hide (show mkE f s n = (if takeE 34 (mnyFs f) (usedFs f) n ≠ 0 then takeE 34 (mnyFs f) (usedFs f) n else createE f.2.2.1 s (takeL 34 (mnyFs f) (usedFs f) n) (mnyFs f)) by
  unfold mkE; rw [if_neg (by rw [← hte]; exact g1), if_neg (by rw [← hte]; simpa using g2)])
 subst g2
 clear hte g1
 have hK : Keeps (fun wx => FsAt wx w.heap.size x ∧ Below w.heap.size w wx) := fun w1 w2 h hb => ⟨h.1.carry hb, h.2.trans (hb.mono h.2.size)⟩
 have hKD : Keeps (fun wx => BlkD wx (w.heap.size + 1)) := fun w1 w2 h hb => h.carry hb
 have hK := Keeps.and hK hKD
 go_wp2_with fail
 try rw [ew3]
 clear ew3
 refine reg_begin hK (by kernel_rfl) ⟨⟨HF_w3.out, HB_w3.out⟩, HD_w3.out⟩ ?_
 intro hS
 refine reg_plan [0, 2, 4] (fuel := 8) (a' := ?qaa1) (by kernel_rfl) (by kernel_rfl) (by kernel_rfl) ?qap1 hS ?qan1
 case qap1 =>
  iterate 3 (apply Yl.cons rfl rfl; focus (rintro wx ⟨⟨x1, x2⟩, x9⟩; obtain ⟨k0, k1, k2, k3, k4, k5⟩ := fs_cells x1; go_simp; all_goals (with_reducible rfl)); try simp only [Act.put, List.setIfInBounds_toArray, List.set_cons_zero, List.set_cons_succ])
  exact Yl.nil
 refine reg_callv hK (i := 1) (v := .int .i64 (mnyFs f)) rfl (by kernel_rfl) (by rfl) (by go_simp) hS (many_fs x f _ (HX.out.carry hS.1.2)) ?_
 clear hS
 intro w27 hS
 try simp only [Act.put, List.setIfInBounds_toArray, List.set_cons_zero, List.set_cons_succ]
 refine reg_call hK (i := 3) (R := fun v wx => OwE wx w.heap.size v (usedFs f)) rfl (by kernel_rfl) (by rfl) (by go_simp) hS ((used_fs x f _ (HX.out.carry hS.1.2) HW.out).mono fun e wy ⟨v, h1, h2, h3⟩ => ⟨v, h1, h2.mono hS.1.2.size, h3⟩) (fun v w1 w2 h hb => h.carry hb) ?_
 intro v29 w29 hKn hRn hSn
 clear hK hS
 have hK := hKn
 have hS := hSn
 clear hKn hSn
 obtain ⟨mU, hmU⟩ : ∃ m, m = (usedFs f).length := ⟨_, rfl⟩
 obtain ⟨yU, zU, emU⟩ : ∃ a c, v29 = .slice a mU c := by rw [hmU]; exact hRn.form
 subst emU
 have HmU := hide hmU
 clear hmU
 clear hRn
 try simp only [Act.put, List.setIfInBounds_toArray, List.set_cons_zero, List.set_cons_succ]
 refine reg_call hK (i := 5) (R := fun v wx => ∃ u, v = .tuple #[u, .int .i64 (takeE 34 (mnyFs f) (usedFs f) n)] ∧ OwE wx w.heap.size u (takeL 34 (mnyFs f) (usedFs f) n)) rfl (by kernel_rfl) (by rfl) (by go_simp) hS ((take_any 34 (mnyFs f) n yU mU zU (usedFs f) _ hS.2.rd HmU.out (usedFs_wf f)).mono fun e wy ⟨v, h1, h2, h3⟩ => ⟨_, h1, ⟨v, rfl, h2.mono hS.1.1.2.size⟩, h3⟩) (fun v w1 w2 ⟨u, h1, h2⟩ hb => ⟨u, h1, h2.carry hb⟩) ?_
 intro v31 w31 hKn hRn hSn
 clear hK hS
 have hK := hKn
 have hS := hSn
 clear hKn hSn
 obtain ⟨u31, rfl, hu31⟩ := hRn
 try simp only [Act.put, List.setIfInBounds_toArray, List.set_cons_zero, List.set_cons_succ]
 refine reg_plan [6, 7, 8, 9, 10] (fuel := 0) (a' := ?qaa2) (by kernel_rfl) (by kernel_rfl) (by kernel_rfl) ?qap2 hS ?qan2
 case qap2 =>
  iterate 5 (apply Yl.cons rfl rfl; focus (rintro wx ⟨⟨⟨⟨x1, x2⟩, x9⟩, _⟩, _⟩; obtain ⟨k0, k1, k2, k3, k4, k5⟩ := fs_cells x1; go_simp; all_goals (with_reducible rfl)); try simp only [Act.put, List.setIfInBounds_toArray, List.set_cons_zero, List.set_cons_succ])
  exact Yl.nil
 refine wpAnyH_done (by kernel_rfl) ?_ _
 refine NoPanic.normal ?_
 try simp only [Act.put, List.setIfInBounds_toArray, List.set_cons_zero, List.set_cons_succ]
 have HB_w31 := hide hS.1.1.1.2
 have HF_w31 := hide hS.1.1.1.1
 have HD_w31 := hide hS.1.1.2
 clear hS hK hKD
 obtain ⟨tk, htk⟩ : ∃ tk, tk = takeE 34 (mnyFs f) (usedFs f) n := ⟨_, rfl⟩
 rw [← htk] at HE ⊢
 by_cases g3 : ¬ tk = 0
 ·rw [if_pos g3] at HE
  have HL := hide (show mkL f s n = [] by unfold mkL; rw [if_neg (by rw [HE.out]; exact g3)])
  clear htk hu31
  have hc := HD_w31.out.cell
  have hf := HD_w31.out.fz
  obtain ⟨z0, hg, -⟩ := HD_w31.out.put (.slice none 0 0)
  obtain ⟨y, hy⟩ := HD_w31.out
  have HOR := hide (show OwF (w31.setCell ⟨w.heap.size + 1, 0, none⟩ (.slice none 0 0)) w.heap.size (.slice none 0 0) _ from OwF.nil _ _)
  have HBR := hide (HB_w31.out.grown hg HB_w31.out.size (by intro k hk; cases hk; omega))
  clear hy hg
  go_wp2
  obtain ⟨w9, hw9⟩ : ∃ w9, w9 = w31.setCell ⟨w.heap.size + 1, 0, none⟩ (.slice none 0 0) := ⟨_, rfl⟩
  rw [← hw9] at z0 HOR HBR ⊢
  try simp only [Exit.inBlock, Exit.then]
  refine bodyPost_ret (v := .tuple #[.agg #[.slice none 0 0], .int .i64 tk]) ?_ rfl ⟨.slice none 0 0, by rw [HE.out], by rw [HL.out]; exact HOR.out, HBR.out⟩
  clear hw9 hc hf
  simp [results, Tryz.results98, go_sem, *]
 rw [if_neg g3] at HE
 rw [Decidable.not_not] at g3
 subst g3
 have HTW0 := hide (show (takeL 34 (mnyFs f) (usedFs f) n).length ≤ 4096 ∧ ∀ x ∈ takeL 34 (mnyFs f) (usedFs f) n, wfX x from ⟨takeL_len _ _ _ _, takeL_wf (by decide) htk.symm⟩)
 clear htk
 obtain ⟨T, hT⟩ : ∃ T, T = takeL 34 (mnyFs f) (usedFs f) n := ⟨_, rfl⟩
 have HTW := hide (by rw [hT]; exact HTW0.out : T.length ≤ 4096 ∧ ∀ x ∈ T, wfX x)
 clear HTW0
 have HL := hide (show mkL f s n = createL f.2.2.1 s T (mnyFs f) by
  unfold mkL createL
  rw [HE.out, ← hT]
  split <;> rfl)
 rw [← hT] at HE hu31
 clear hT
 obtain ⟨mT, hmT⟩ : ∃ m, m = T.length := ⟨_, rfl⟩
 obtain ⟨yT, zT, eT⟩ : ∃ a c, u31 = .slice a mT c := by rw [hmT]; exact hu31.form
 subst eT
 have HmT := hide hmT
 have HU := hide hu31
 clear hmT hu31
 have hK : Keeps (fun wx => FsAt wx w.heap.size x ∧ Below w.heap.size w wx) := fun w1 w2 h hb => ⟨h.1.carry hb, h.2.trans (hb.mono h.2.size)⟩
 have hKD : Keeps (fun wx => BlkD wx (w.heap.size + 1) ∧ OwE wx w.heap.size (.slice yT mT zT) T) := fun w1 w2 h hb => ⟨h.1.carry hb, h.2.carry hb⟩
 have hK := Keeps.and hK hKD
 go_wp2_with fail
 refine reg_begin hK (by kernel_rfl) ⟨⟨HF_w31.out, HB_w31.out⟩, HD_w31.out, HU.out⟩ ?_
 intro hS
 refine reg_plan [0, 1, 2, 3, 4] (fuel := 6) (a' := ?qba1) (by kernel_rfl) (by kernel_rfl) (by kernel_rfl) ?qbp1 hS ?qbn1
 case qbp1 =>
  iterate 5 (apply Yl.cons rfl rfl; focus (rintro wx ⟨⟨x1, x2⟩, x9⟩; obtain ⟨k0, k1, k2, k3, k4, k5⟩ := fs_cells x1; go_simp; all_goals (with_reducible rfl)); try simp only [Act.put, List.setIfInBounds_toArray, List.set_cons_zero, List.set_cons_succ])
  exact Yl.nil
 refine reg_callv hK (i := 5) (v := .int .i64 (mnyFs f)) rfl (by kernel_rfl) (by rfl) (by go_simp) hS (many_fs x f _ (HX.out.carry hS.1.2)) ?_
 clear hS
 intro w43 hS
 try simp only [Act.put, List.setIfInBounds_toArray, List.set_cons_zero, List.set_cons_succ]
 refine reg_call hK (i := 6) (R := fun v wx => ∃ u, v = .tuple #[.agg #[u], .int .i64 (createE f.2.2.1 s T (mnyFs f))] ∧ OwF wx w.heap.size u (createL f.2.2.1 s T (mnyFs f))) rfl (by kernel_rfl) (by rfl) (by go_simp) hS ((create_any _ _ _ f.2.2.1 s yT mT zT T (mnyFs f) _ (HX.out.fl.carry hS.1.2) HX.out.n4 HW.out.fl hS.2.2.rd HmT.out (by have := HTW.out.1; omega) HTW.out.2).mono fun e wy ⟨v, h1, h2, h3⟩ => ⟨_, h1, ⟨v, rfl, h2.mono hS.1.2.size⟩, h3⟩) (fun v w1 w2 ⟨u, h1, h2⟩ hb => ⟨u, h1, h2.carry hb⟩) ?_
 intro v44 w44 hKn hRn hSn
 clear hK hS
 have hK := hKn
 have hS := hSn
 clear hKn hSn
 obtain ⟨u44, rfl, hu44⟩ := hRn
 obtain ⟨mV, hmV⟩ : ∃ m, m = (createL f.2.2.1 s T (mnyFs f)).length := ⟨_, rfl⟩
 obtain ⟨yV, zV, eV⟩ : ∃ a c, u44 = .slice a mV c := by rw [hmV]; exact hu44.form
 subst eV
 clear hmV
 try simp only [Act.put, List.setIfInBounds_toArray, List.set_cons_zero, List.set_cons_succ]
 refine reg_plan [7, 8] (fuel := 2) (a' := ?qba2) (by kernel_rfl) (by kernel_rfl) (by kernel_rfl) ?qbp2 hS ?qbn2
 case qbp2 =>
  iterate 2 (apply Yl.cons rfl rfl; focus (rintro wx ⟨⟨⟨x1, x2⟩, x9⟩, _⟩; obtain ⟨k0, k1, k2, k3, k4, k5⟩ := fs_cells x1; go_simp; all_goals (with_reducible rfl)); try simp only [Act.put, List.setIfInBounds_toArray, List.set_cons_zero, List.set_cons_succ])
  exact Yl.nil
 have hc := hS.1.2.1.cell
 have hf := hS.1.2.1.fz
 obtain ⟨z0, hg, hBD⟩ := hS.1.2.1.put (.slice yV mV zV)
 obtain ⟨y, hy⟩ := hS.1.2.1
 have HOR := hide (hu44.keptS hg hy (by decide) (by decide))
 have HBR := hide (hS.1.1.2.grown hg hS.1.1.2.size (by intro k hk; cases hk; omega))
 obtain ⟨w9, hw9⟩ : ∃ w9, w9 = w44.setCell ⟨w.heap.size + 1, 0, none⟩ (.slice yV mV zV) := ⟨_, rfl⟩
 rw [← hw9] at z0 HOR HBR hBD
 have hS9 : ((FsAt w9 w.heap.size x ∧ Below w.heap.size w w9) ∧ BlkD w9 (w.heap.size + 1) ∧ OwE w9 w.heap.size (.slice yT mT zT) T) ∧ ∃ u, (Value.tuple #[.agg #[.slice yV mV zV], .int .i64 (createE f.2.2.1 s T (mnyFs f))]) = .tuple #[.agg #[u], .int .i64 (createE f.2.2.1 s T (mnyFs f))] ∧ OwF w9 w.heap.size u (createL f.2.2.1 s T (mnyFs f)) := ⟨⟨⟨hS.1.1.1.grown (hw9 ▸ hg) (by omega), HBR.out⟩, hBD, own_keptS hS.1.2.2 (hw9 ▸ hg) hy (by decide)⟩, _, rfl, HOR.out⟩
 refine reg_unit (i := 9) (w' := w9) rfl (by kernel_rfl) (by rfl) (by rw [hw9]; go_simp) hS9 ?_
 clear hS
 have hS := hS9
 try simp only [Act.put, List.setIfInBounds_toArray, List.set_cons_zero, List.set_cons_succ]
 refine reg_plan [10] (fuel := 0) (a' := ?qba3) (by kernel_rfl) (by kernel_rfl) (by kernel_rfl) ?qbp3 hS ?qbn3
 case qbp3 =>
  iterate 1 (apply Yl.cons rfl rfl; focus (rintro wx ⟨⟨⟨x1, x2⟩, x9⟩, _⟩; obtain ⟨k0, k1, k2, k3, k4, k5⟩ := fs_cells x1; go_simp; all_goals (with_reducible rfl)); try simp only [Act.put, List.setIfInBounds_toArray, List.set_cons_zero, List.set_cons_succ])
  exact Yl.nil
 refine wpAnyH_done (by kernel_rfl) ?_ _
 refine NoPanic.normal ?_
 try simp only [Act.put, List.setIfInBounds_toArray, List.set_cons_zero, List.set_cons_succ]
 clear hS hS9 hc hf hg hy hBD hu44 hw9 hK hKD
 go_wp2
 refine bodyPost_ret (v := .tuple #[.agg #[.slice yV mV zV], .int .i64 (createE f.2.2.1 s T (mnyFs f))]) ?_ rfl ⟨_, by rw [HE.out], by rw [HL.out]; exact HOR.out, HBR.out⟩
 simp [results, Tryz.results98, go_sem, *]
theorem app_fileG {w : World} {base : Nat} {v : Value} {fs : List Fl} (h : OwF w base v fs) (hb : base ≤ w.heap.size) (hl : fs.length ≤ 1000000) (s : List UInt8) (x : Value) (l : List Ex) (hx : OwE w base x l) :
  ∃ g c w', (Builtin.append_ #[29, 29] 29 #[v, .slice (some ⟨w.heap.size, 0, none⟩) 1 1]).run Tryz.prog (w.alloc (.cells #[.string (bs s), x] 98)) = .ok (.slice (some ⟨g, 0, none⟩) (fs.length + 1) c) w' ∧
   OwF w' base (.slice (some ⟨g, 0, none⟩) (fs.length + 1) c) (fs ++ [(s, l)]) ∧ Below base w w' ∧ (w.alloc (.cells #[.string (bs s), x] 98)).grownBy w' v.ownBlock := by
 obtain ⟨g, c, w', hrun, h1, h2⟩ := app_fileF h hb hl s x l hx
 refine ⟨g, c, w', hrun, h1, h2, ?_⟩
 obtain ⟨ps, e, h⟩ := h
 have hpl : ps.length = fs.length := by rw [← e]; simp
 obtain ⟨i0, hi, hz0, hz1, hz2⟩ := info_parts Tryz.infoFl
 have hb8 : Below w.heap.size w (w.alloc (.cells #[.string (bs s), x] 98)) := (Below.refl _ _).alloc (Nat.le_refl _) _
 obtain ⟨v9, w9, hrun9, hown9, hg9, _⟩ := run_append_own (P := Tryz.prog) _ base 29 29 98 i0 _ 2 40 Tryz.underlying29 hi hz0 hz1 hz2 rfl (by decide) _ _ _ (own_carry h.1 hb8) ⟨w.heap.size, 0, none⟩ 1 1 [.string (bs s), x] rfl (alloc_news w #[.string (bs s), x] 98) (by
  intro u hu
  simp at hu
  rcases hu with rfl | rfl
  ·rfl
  ·exact hx.ownForm) (by unfold maxLen; omega) (by omega) (Nat.le_trans hb hb8.size)
 rw [hrun] at hrun9
 injection hrun9 with _ e9
 rw [e9]
 exact hg9
theorem OwF.own_lt {w : World} {base : Nat} {v : Value} {fs : List Fl} (h : OwF w base v fs) : ∀ k, v.ownBlock = some k → k < w.heap.size := by
 obtain ⟨ps, _, h⟩ := h
 intro k hk
 exact (h.1.lt k hk).2
def smallD (fs : List Fl) : Prop := fs.length ≤ 1000 ∧ ∀ f ∈ fs, f.2.length ≤ 1000000
theorem small_chk {fs : List Fl} {B : Int} (h : chkF fs B = 0) : smallD fs := by
 have h1 := (chkF_may h).2
 exact ⟨by have := h1.1; omega, may_le h1⟩
theorem copyDir_any (a : Option Addr) (n c : Nat) (fs : List Fl) (w : World) (hrd : RdF w (.slice a n c) fs) (hn : n = fs.length) (hsm : smallD fs) :
  Calls Tryz.prog 94 #[.agg #[.slice a n c]] w fun e w' => ∃ v, e = .returned (.agg #[v]) ∧ OwF w' w.heap.size v fs ∧ Below w.heap.size w w' := by
 have hm : n ≤ 1000 := by have := hsm.1; omega
 have HR := hide hrd
 have HN := hide hn
 have HL := hide hsm.2
 clear hrd hn hsm
 obtain ⟨w1, ew⟩ : ∃ w1, (w.alloc (.cells #[.slice a n c] 31)).alloc (.cells #[.slice none 0 0] 31) = w1 := ⟨_, rfl⟩
 have hb0 : Below w.heap.size w (w.alloc (.cells #[.slice a n c] 31)) := (Below.refl _ _).alloc (Nat.le_refl _) _
 have hb1 : Below w.heap.size w w1 := by rw [← ew]; exact hb0.alloc (by simp) _
 have HA_w1 := hide (show Bq w1 w.heap.size 31 #[.slice a n c] by rw [← ew]; exact (Bq.new w _ _).carry ((Below.refl _ _).alloc (Nat.le_refl _) _))
 have HD_w1 := hide (show BlkD w1 (w.heap.size + 1) by
  have := BlkD.new (w.alloc (.cells #[.slice a n c] 31)) (.slice none 0 0)
  rw [← ew]; simpa using this)
 have k0 : w1.cell? ⟨w.heap.size, 0, none⟩ = some (.slice a n c) := HA_w1.out.cell 0
 have HB_w1 := hide hb1
 have HSZ := hide (show w1.heap.size = w.heap.size + 2 by rw [← ew]; simp)
 clear hb0 hb1
 go_enter Tryz.func94, Tryz.ntmps94
 go_wp2
 go_loopw [9, 3] (fun i v wr => ∃ k : Nat, k ≤ n ∧ i = .int .i64 k ∧ Hid (OwF wr w1.heap.size v (fs.take k)) ∧ Below w1.heap.size w1 wr) (fun i _ _ => n - (intOf i).toNat)
 case atStart => exact ⟨0, Nat.zero_le _, rfl, hide (by simpa using OwF.nil _ _), Below.refl _ _⟩
 case round =>
  obtain ⟨k, hk, rfl, hown, hbel⟩ := hrel
  by_cases hlt : k < n
  ·have hlt' : (k : Int) < n := by omega
   have hkl : k < fs.length := by have := HN.out; omega
   have HT := hide (take_snocF fs k hkl)
   have HTL := hide (show (fs.take k).length = k by rw [List.length_take]; omega)
   obtain ⟨av, cv, e9⟩ := hown.out.form
   rw [HTL.out] at e9
   subst e9
   have HBr := hide hbel
   have HB9w := hide (show Below w.heap.size w wr from HB_w1.out.trans (hbel.mono HB_w1.out.size))
   clear hbel
   obtain ⟨b, off, a2, c2, rfl, q0, q1, q2⟩ := HR.out.atB HB9w.out k hkl
   have HQ := hide q2
   have HLk := hide (HL.out _ (List.getElem_mem hkl))
   clear q2
   obtain ⟨f, hf⟩ : ∃ f, f = fs[k] := ⟨_, rfl⟩
   rw [← hf] at q0 q1 HQ HT HLk
   clear hf
   obtain ⟨s, l⟩ := f
   simp only at q0 q1
   obtain ⟨m, hm2⟩ : ∃ m, m = l.length := ⟨_, rfl⟩
   have HQ2 := hide (show RdE w (.slice a2 m c2) l by rw [hm2]; exact HQ.out)
   rw [← hm2] at q1
   have HM2 := hide hm2
   clear hm2 HQ
   obtain ⟨wq, ewq⟩ : ∃ wq, wr.alloc (.cells #[.string (bs s), .slice a2 m c2] 98) = wq := ⟨_, rfl⟩
   have hbq : Below wr.heap.size wr wq := by rw [← ewq]; exact (Below.refl _ _).alloc (Nat.le_refl _) _
   have HBq := hide (show Bq wq wr.heap.size 98 #[.string (bs s), .slice a2 m c2] by rw [← ewq]; exact Bq.new _ _ _)
   have hbq' : Below w.heap.size w wq := HB9w.out.trans (hbq.mono HB9w.out.size)
   go_wp2_with fail
   try rw [ewq]
   have hK : Keeps (fun wx => Bq wx wr.heap.size 98 #[.string (bs s), .slice a2 m c2] ∧ Below w1.heap.size w1 wx) := fun w1 w2 h hb => ⟨h.1.carry hb, h.2.trans (hb.mono h.2.size)⟩
   have hS0 : (fun wx => Bq wx wr.heap.size 98 #[.string (bs s), .slice a2 m c2] ∧ Below w1.heap.size w1 wx) wq := ⟨HBq.out, HBr.out.trans (hbq.mono HBr.out.size)⟩
   have HCL := hide (show Calls Tryz.prog 170 #[.slice a2 m c2] wq.drew fun e w' => ∃ v, e = .returned v ∧ ∃ av cv, v = .slice av m cv ∧ OwE w' wq.heap.size (.slice av m cv) l ∧ Below wq.heap.size wq w' from (clone_ext a2 m c2 l wq.drew ((HQ2.out.carry hbq').carry (Below.refl _ _).drew) HM2.out HLk.out).mono fun e wy ⟨v, h1, h2, h3⟩ => by
    obtain ⟨a3, c3, e3⟩ := OwE.form h2
    rw [← HM2.out] at e3
    subst e3
    exact ⟨_, h1, a3, c3, rfl, h2, (Below.refl _ _).drew.trans h3⟩)
   clear q0 q1 ewq hbq'
   refine reg_begin hK (by kernel_rfl) hS0 ?_
   intro hS
   refine reg_plan [0, 1, 2, 3, 4] (fuel := 5) (a' := ?qaa1) (by kernel_rfl) (by kernel_rfl) (by kernel_rfl) ?qap1 hS ?qan1
   case qap1 =>
    iterate 5 (apply Yl.cons rfl rfl; focus (rintro wx ⟨x1, x2⟩; (have e0 := x1.cell 0); (have e1 := x1.cell 1); simp only [List.getElem?_toArray, List.getElem?_cons_zero, List.getElem?_cons_succ] at e0 e1; go_simp; all_goals (with_reducible rfl)); try simp only [Act.put, List.setIfInBounds_toArray, List.set_cons_zero, List.set_cons_succ])
    exact Yl.nil
   refine reg_callg (i := 5) (R := fun v wx => ∃ av cv, v = .slice av m cv ∧ OwE wx wq.heap.size (.slice av m cv) l ∧ Below wq.heap.size wq wx) rfl (by kernel_rfl) (by rfl) (by go_simp) HCL.out ?_
   rintro v7 w7 ⟨a7, c7, rfl, ho7, hb7⟩
   have hS7 := hK _ _ hS0 hb7
   refine ⟨hS7, ?_⟩
   obtain ⟨g9, c9, w9, hrun, ho9, hb9, hg9⟩ := app_fileG (hown.out.carry (hbq.trans (hb7.mono hbq.size))) (Nat.le_trans HBr.out.size (Nat.le_trans hbq.size hb7.size)) (by have := HTL.out; omega) s (.slice a7 m c7) l (ho7.mono (Nat.le_trans HBr.out.size hbq.size))
   rw [HTL.out] at hrun ho9
   have HO9 := hide ho9
   have HB9 := hide (show Below w1.heap.size w1 w9 from (HBr.out.trans ((hbq.trans (hb7.mono hbq.size)).mono HBr.out.size)).trans hb9)
   have hSa := hK _ (w7.alloc (.cells #[.string (bs s), .slice a7 m c7] 98)) hS7 ((Below.refl _ _).alloc (Nat.le_refl _) _)
   have hS9 : (fun wx => Bq wx wr.heap.size 98 #[.string (bs s), .slice a2 m c2] ∧ Below w1.heap.size w1 wx) w9 := ⟨(hg9.block _ hSa.1.lt (fun e => Nat.lt_irrefl _ (hown.out.own_lt _ e.symm))).trans hSa.1, HB9.out⟩
   clear hS ho9 hb9 hg9
   have hS := hS7
   try simp only [Act.put, List.setIfInBounds_toArray, List.set_cons_zero, List.set_cons_succ]
   refine reg_plan [6] (fuel := 3) (a' := ?qaa2) (by kernel_rfl) (by kernel_rfl) (by kernel_rfl) ?qap2 hS ?qan2
   case qap2 =>
    iterate 1 (apply Yl.cons rfl rfl; focus (rintro wx ⟨x1, x2⟩; (have e0 := x1.cell 0); (have e1 := x1.cell 1); simp only [List.getElem?_toArray, List.getElem?_cons_zero, List.getElem?_cons_succ] at e0 e1; go_simp; all_goals (with_reducible rfl)); try simp only [Act.put, List.setIfInBounds_toArray, List.set_cons_zero, List.set_cons_succ])
    exact Yl.nil
   refine reg_run (i := 7) (v := .slice (some ⟨w7.heap.size, 0, none⟩) 1 1) (w' := w7.alloc (.cells #[.string (bs s), .slice a7 m c7] 98)) rfl (by kernel_rfl) (by rfl) (by go_simp) hSa ?_
   clear hS
   have hS := hSa
   try simp only [Act.put, List.setIfInBounds_toArray, List.set_cons_zero, List.set_cons_succ]
   refine reg_run (i := 8) (v := .slice (some ⟨g9, 0, none⟩) (k + 1) c9) (w' := w9) rfl (by kernel_rfl) (by rfl) (run_appE (v := .slice av k cv) (y := .slice (some ⟨w7.heap.size, 0, none⟩) 1 1) rfl rfl rfl hrun) hS9 ?_
   clear hS
   have hS := hS9
   try simp only [Act.put, List.setIfInBounds_toArray, List.set_cons_zero, List.set_cons_succ]
   refine reg_plan [9] (fuel := 0) (a' := ?qaa3) (by kernel_rfl) (by kernel_rfl) (by kernel_rfl) ?qap3 hS ?qan3
   case qap3 =>
    iterate 1 (apply Yl.cons rfl rfl; focus (rintro wx ⟨x1, x2⟩; (have e0 := x1.cell 0); (have e1 := x1.cell 1); simp only [List.getElem?_toArray, List.getElem?_cons_zero, List.getElem?_cons_succ] at e0 e1; go_simp; all_goals (with_reducible rfl)); try simp only [Act.put, List.setIfInBounds_toArray, List.set_cons_zero, List.set_cons_succ])
    exact Yl.nil
   refine wpAnyH_done (by kernel_rfl) ?_ _
   refine NoPanic.normal ?_
   try simp only [Act.put, List.setIfInBounds_toArray, List.set_cons_zero, List.set_cons_succ]
   clear hS hS9 hSa hS7 hS0 hK hrun ho7 hb7 hbq hown
   go_wp2
   go_roundw
   case rel => exact ⟨k + 1, by omega, rfl, hide (by rw [HT.out]; exact HO9.out), HB9.out⟩
   case measure => simp only [intOf]; omega
  ·have hd : decide ((k : Int) < n) = false := by simpa using (by omega : ¬ (k : Int) < n)
   have e : k = fs.length := by have := HN.out; omega
   rw [e, List.take_length] at hown
   clear e
   obtain ⟨av, cv, e9⟩ := hown.out.form
   rw [← HN.out] at e9
   subst e9
   have HDr := hide (HD_w1.out.carry hbel)
   have hc := HDr.out.cell
   have hf := HDr.out.fz
   obtain ⟨z0, hg, -⟩ := HDr.out.put (.slice av n cv)
   obtain ⟨y, hy⟩ := HDr.out
   have HOR := hide ((hown.out.keptS hg hy (by decide) (by decide)).mono HB_w1.out.size)
   have HBR := hide (show Below w.heap.size w _ from (HB_w1.out.trans (hbel.mono HB_w1.out.size)).grown hg (Nat.le_trans HB_w1.out.size hbel.size) (by intro k hk; cases hk; omega))
   clear hy hg
   go_wp2
   obtain ⟨w9, hw9⟩ : ∃ w9, w9 = wr.setCell ⟨w.heap.size + 1, 0, none⟩ (.slice av n cv) := ⟨_, rfl⟩
   rw [← hw9] at z0 HOR HBR ⊢
   try simp only [Exit.inBlock, Exit.then]
   refine bodyPost_ret (v := .agg #[.slice av n cv]) ?_ rfl ⟨_, rfl, HOR.out, HBR.out⟩
   clear hw9 hc hf
   simp [results, Tryz.results94, go_sem, *]
end Go.Proofs.YtmeaiocohalphaaGreatDoor
