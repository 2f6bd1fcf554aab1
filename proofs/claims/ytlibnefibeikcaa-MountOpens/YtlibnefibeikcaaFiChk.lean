/-
  What files' small functions do: names, numbers of blocks, each file by itself.
-/
import Derived.Test.YtlibnefibeikcaaFiKit
import Derived.Test.YtlibnefibeikcaaMathRd
namespace Go.Proofs.Ytlibnefibeikcaa
open Go.RowKit
set_option linter.unusedVariables false
set_option linter.unusedSimpArgs false

theorem bs_list (s : List UInt8) : (bs s).toList = s := by rw [ByteArray.toList_eq, bs_toList]

set_option maxHeartbeats 400000 in
theorem isName_any (s : List UInt8) (w : World) : Calls Try.prog 80 #[.string (bs s)] w fun e w' => e = .returned (.bool (nameF s)) ∧ w' = w := by
  have hz := bs_size s
  by_cases h1 : 1 ≤ s.length
  · have h1' : (1 : Int) ≤ s.length := by omega
    by_cases h2 : s.length ≤ 16
    · have HN := hide (show nameF s = true by simp [nameF, h1, h2])
      have h2' : (s.length : Int) ≤ 16 := by omega
      go_enter Try.func80, Try.ntmps80
      go_wp2
      go_ret
      exact ⟨by rw [HN.out]; rfl, rfl⟩
    · have HN := hide (show nameF s = false by simp [nameF, h1, h2])
      have h2' : (16 : Int) < s.length := by omega
      go_enter Try.func80, Try.ntmps80
      go_wp2
      go_ret
      exact ⟨by rw [HN.out]; first | rfl | (simp; done) | (simp; omega), rfl⟩
  · have HN := hide (show nameF s = false by simp [nameF, h1])
    have h1' : (s.length : Int) < 1 := by omega
    go_enter Try.func80, Try.ntmps80
    go_wp2
    go_ret
    exact ⟨by rw [HN.out]; first | rfl | (simp; omega), rfl⟩

set_option maxHeartbeats 400000 in
theorem blocksMayBe_any (b : Int) (w : World) : Calls Try.prog 47 #[.int .i64 b] w fun e w' => e = .returned (.bool (decide (blkP b))) ∧ w' = w := by
  by_cases h1 : 34 < b
  · by_cases h2 : b ≤ 4096
    · have HN := hide (show decide (blkP b) = true by simp [blkP, h1, h2])
      go_enter Try.func47, Try.ntmps47
      go_wp2
      go_ret
      exact ⟨by rw [HN.out]; rfl, rfl⟩
    · have HN := hide (show decide (blkP b) = false by simp [blkP, h2])
      have h2' : 4096 < b := by omega
      go_enter Try.func47, Try.ntmps47
      go_wp2
      go_ret
      exact ⟨by rw [HN.out]; first | rfl | (simp; done) | (simp; omega), rfl⟩
  · have HN := hide (show decide (blkP b) = false by simp [blkP, h1])
    have h1' : b ≤ 34 := by omega
    go_enter Try.func47, Try.ntmps47
    go_wp2
    go_ret
    exact ⟨by rw [HN.out]; first | rfl | (simp; omega), rfl⟩

theorem bl_of (s t : List UInt8) : Op.bytesLess (bs s).toList (bs t).toList = ltN s t := by rw [bs_list, bs_list, ltN_bl]
theorem eq_ofN (s t : List UInt8) : ((bs s).toList == (bs t).toList) = (s == t) := by rw [bs_list, bs_list]

set_option maxHeartbeats 1000000 in
theorem eachMayBe_any (a : Option Addr) (n c : Nat) (fs : List Fl) (w : World) (hrd : RdF w (.slice a n c) fs) (hn : n = fs.length) :
    Calls Try.prog 68 #[.slice a n c] w fun e w' => e = .returned (.bool (decide (eachP fs))) ∧ Below w.heap.size w w' := by
  have hm : n ≤ maxLen := hn ▸ hrd.len_le
  unfold maxLen at hm
  have HR := hide hrd
  have HN := hide hn
  clear hrd hn
  go_enter Try.func68, Try.ntmps68
  go_wp2
  go_loopw [7] (fun i wr => ∃ k : Nat, k ≤ n ∧ i = .int .i64 k ∧ Hid (eachP (fs.take k)) ∧ Below w.heap.size w wr) (fun i _ => n - (intOf i).toNat)
  case atStart => exact ⟨0, Nat.zero_le _, rfl, hide (by simpa using eachP_nil), Below.refl _ _⟩
  case round =>
    obtain ⟨k, hk, rfl, hall, hbel⟩ := hrel
    by_cases hlt : k < n
    · have hlt' : (k : Int) < n := by omega
      have hkl : k < fs.length := by have := HN.out; omega
      have HB := hide (HR.out.carry hbel)
      obtain ⟨b, off, a2, c2, rfl, q0, q1, q2⟩ := HB.out.at k hkl
      have HQ := hide q2
      clear q2
      obtain ⟨f, hf⟩ : ∃ f, f = fs[k] := ⟨_, rfl⟩
      rw [← hf] at q0 q1 HQ
      have HF := hide hf
      clear hf
      have hbel1 : ∀ o, Below w.heap.size w (wr.alloc o) := fun o => hbel.alloc hbel.size o
      have hname := isName_any f.1
      cases hnm : nameF f.1 with
      | false =>
        have HM := hide (show decide (eachP fs) = false by
          have : oneF fs[k] = false := by rw [← HF.out]; simp [oneF, hnm]
          simpa using eachP_bad1 hkl this)
        rw [hnm] at hname
        clear hnm
        go_wp2_with (go_at_call 80; refine (hname _).mono ?_; rintro e wc ⟨rfl, rfl⟩)
        go_ret
        exact ⟨by rw [HM.out]; rfl, hbel1 _⟩
      | true =>
        rw [hnm] at hname
        obtain ⟨m, hm2⟩ : ∃ m, m = f.2.length := ⟨_, rfl⟩
        rw [← hm2] at q1 HQ
        have HM2 := hide hm2
        clear hm2
        by_cases g1 : m = 0
        · have HM := hide (show decide (eachP fs) = false by
            have : oneF fs[k] = false := by rw [← HF.out]; have := HM2.out; simp [oneF, hnm]; omega
            simpa using eachP_bad1 hkl this)
          clear hnm HM2 HQ
          subst g1
          go_wp2_with (go_at_call 80; refine (hname _).mono ?_; rintro e wc ⟨rfl, rfl⟩)
          go_ret
          exact ⟨by rw [HM.out]; rfl, hbel1 _⟩
        have g1' : ((m : Int) == 0) = false := by simpa using g1
        by_cases g2 : 64 < m
        · have HM := hide (show decide (eachP fs) = false by
            have : oneF fs[k] = false := by rw [← HF.out]; have := HM2.out; simp [oneF, hnm]; omega
            simpa using eachP_bad1 hkl this)
          have g2' : (64 : Int) < m := by omega
          clear hnm HM2 HQ
          go_wp2_with (go_at_call 80; refine (hname _).mono ?_; rintro e wc ⟨rfl, rfl⟩)
          go_ret
          exact ⟨by rw [HM.out]; rfl, hbel1 _⟩
        have g2' : decide ((64 : Int) < m) = false := by simpa using (by omega : ¬ (64 : Int) < m)
        have HO := hide (show oneF fs[k] = true by rw [← HF.out]; have := HM2.out; simp [oneF, hnm]; omega)
        clear hnm HM2 HQ
        have HBB : Hid (∀ o, Below w.heap.size w (wr.alloc o)) := hbel1
        clear hbel1
        by_cases hk0 : k = 0
        · subst hk0
          rw [Nat.zero_mul, Nat.add_zero] at q0 q1
          have HA := hide (show eachP (fs.take (0 + 1)) from eachP_next hkl hall.out HO.out (fun j hj => by omega))
          go_wp2_with (go_at_call 80; refine (hname _).mono ?_; rintro e wc ⟨rfl, rfl⟩)
          go_quiet (fail)
          go_wp2
          go_roundw
          case rel => exact ⟨1, by omega, rfl, HA, by have := HBB.out; first | exact below_drewN (this _) _ | exact (this _).drew | exact this _⟩
          case measure => simp only [intOf]; omega
        · obtain ⟨j, rfl⟩ : ∃ j, k = j + 1 := ⟨k - 1, by omega⟩
          obtain ⟨b', off', a3, c3, e3, q3, q4, q5⟩ := HB.out.at j (by omega)
          cases e3
          have hj' : (j : Int) < n := by omega
          have hw : IntKind.i64.wrap (j : Int) = j := by rw [IntKind.wrap_i64]; omega
          obtain ⟨s, hs⟩ : ∃ s, s = (fs[j]).1 := ⟨_, rfl⟩
          rw [← hs] at q3
          have HS := hide hs
          have q6 : ∀ o, (wr.alloc o).cell? ⟨b, off + j * 2, none⟩ = some (.string (bs s)) := fun o => Lib.cell?_alloc_some _ q3
          clear q4 q5 hs
          cases hl : ltN s f.1 with
          | true =>
            have HA := hide (show eachP (fs.take (j + 1 + 1)) from eachP_next hkl hall.out HO.out (fun i hi => by
              obtain rfl : i = j := by omega
              rw [← HS.out, ← HF.out]; exact hl))
            have x1 : Op.bytesLess (bs f.1).toList (bs s).toList = false := by rw [bl_of]; exact ltN_asymm hl
            have x2 : ((bs f.1).toList == (bs s).toList) = false := by rw [eq_ofN]; simpa using (ltN_ne hl).symm
            clear hl
            go_wp2_with (go_at_call 80; refine (hname _).mono ?_; rintro e wc ⟨rfl, rfl⟩)
            go_quiet (fail)
            go_wp2
            go_roundw
            case rel => exact ⟨j + 2, by omega, by go_num, HA, by have := HBB.out; first | exact below_drewN (this _) _ | exact (this _).drew | exact this _⟩
            case measure => simp only [intOf]; omega
          | false =>
            have HM := hide (show decide (eachP fs) = false by
              have : ltN (fs[j]).1 (fs[j + 1]).1 = false := by rw [← HS.out, ← HF.out]; exact hl
              simpa using eachP_bad2 hkl this)
            by_cases e0 : f.1 = s
            · have x1 : Op.bytesLess (bs f.1).toList (bs s).toList = false := by rw [bl_of, e0]; exact ltN_irrefl s
              have x2 : ((bs f.1).toList == (bs s).toList) = true := by rw [eq_ofN, e0]; simp
              clear hl e0
              go_wp2_with (go_at_call 80; refine (hname _).mono ?_; rintro e wc ⟨rfl, rfl⟩)
              go_quiet (fail)
              go_wp2
              go_ret
              exact ⟨by rw [HM.out]; rfl, by have := HBB.out; first | exact below_drewN (this _) _ | exact (this _).drew | exact this _⟩
            · have x1 : Op.bytesLess (bs f.1).toList (bs s).toList = true := by rw [bl_of]; exact ltN_total _ _ hl (fun e => e0 e.symm)
              have x2 : ((bs f.1).toList == (bs s).toList) = false := by rw [eq_ofN]; simpa using e0
              clear hl e0
              go_wp2_with (go_at_call 80; refine (hname _).mono ?_; rintro e wc ⟨rfl, rfl⟩)
              go_quiet (fail)
              go_wp2
              go_ret
              exact ⟨by rw [HM.out]; rfl, by have := HBB.out; first | exact below_drewN (this _) _ | exact (this _).drew | exact this _⟩
    · have hd : decide ((k : Int) < n) = false := by simpa using (by omega : ¬ (k : Int) < n)
      have e : k = fs.length := by have := HN.out; omega
      have HM := hide (show decide (eachP fs) = true by have := hall.out; rw [e, List.take_length] at this; simpa using this)
      clear e
      go_wp2
      go_ret
      exact ⟨by rw [HM.out]; rfl, hbel⟩

end Go.Proofs.Ytlibnefibeikcaa
