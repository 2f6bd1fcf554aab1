/-
  What bytesOf, fits, mayBe and Check do.
-/
import Derived.Test.YtlibnefibeikcaaFiChk2
namespace Go.Proofs.Ytlibnefibeikcaa
open Go.RowKit
set_option linter.unusedVariables false
set_option linter.unusedSimpArgs false

theorem small_by (n : Nat) (w : World) (hn : n < 18446744073709551616) : Calls Try.prog 87 #[.int .u64 n] w fun e w' => ∃ v, e = .returned v ∧ OwBy w' w.heap.size v (sm n) ∧ Below w.heap.size w w' := small_any n w hn
theorem text_by (s : List UInt8) (w : World) (hs : s.length ≤ 1000000) : Calls Try.prog 88 #[.string (bs s)] w fun e w' => ∃ v, e = .returned v ∧ OwBy w' w.heap.size v (tx s) ∧ Below w.heap.size w w' := by
  have := text_any (bs s) w (by rw [bs_size]; omega)
  rwa [bs_toList] at this

set_option maxHeartbeats 2000000 in
set_option maxRecDepth 100000 in
theorem bytesOf_any (a : Option Addr) (n c : Nat) (fs : List Fl) (w : World) (hrd : RdF w (.slice a n c) fs) (hn : n = fs.length) (hok : okB fs) :
    Calls Try.prog 82 #[.slice a n c] w fun e w' => ∃ v, e = .returned v ∧ OwBy w' w.heap.size v (bytF fs) ∧ Below w.heap.size w w' := by
  have hm : n ≤ 1000 := hn ▸ hok.1
  have HR := hide hrd
  have HN := hide hn
  have HK := hide hok
  clear hrd hn hok
  go_enter Try.func82, Try.ntmps82
  go_wp2_with fail
  refine (small_by n _ (by omega)).mono ?_
  rintro e w1 ⟨v1, rfl, ho1, hb1⟩
  go_wp2
  go_loopw [14, 3] (fun i v wr => ∃ k : Nat, k ≤ n ∧ i = .int .i64 k ∧ Hid (OwBy wr w.heap.size v (sm n ++ (fs.take k).flatMap bytFl)) ∧ Below w.heap.size w wr) (fun i _ _ => n - (intOf i).toNat)
  case atStart => exact ⟨0, Nat.zero_le _, rfl, hide (by simpa using ho1), hb1⟩
  case round =>
    obtain ⟨k, hk, rfl, hown, hbel⟩ := hrel
    clear ho1 hb1
    by_cases hlt : k < n
    · have hlt' : (k : Int) < n := by omega
      have hkl : k < fs.length := by have := HN.out; omega
      have HU := hide (bytF_take fs k hkl)
      have HLL := hide (okB_take HK.out k)
      obtain ⟨b, off, a2, c2, rfl, q0, q1, q2⟩ := HR.out.atB hbel k hkl
      have HQ := hide q2
      clear q2
      have HFK := hide (HK.out.2 _ (List.getElem_mem hkl))
      obtain ⟨f, hf⟩ : ∃ f, f = fs[k] := ⟨_, rfl⟩
      rw [← hf] at q0 q1 HQ HU HFK
      clear hf
      obtain ⟨L, hL⟩ : ∃ L, L = (fs.take k).flatMap bytFl := ⟨_, rfl⟩
      rw [← hL] at hown HU HLL
      clear hL
      obtain ⟨m, hm2⟩ : ∃ m, m = f.2.length := ⟨_, rfl⟩
      rw [← hm2] at q1 HQ
      have hmm : m ≤ 1000 := by rw [hm2]; exact HFK.out.2.1
      have HM2 := hide hm2
      clear hm2
      have HSM := hide (sm_len_le10 (n := n) (by omega))
      have HSM2 := hide (sm_len_le10 (n := m) (by omega))
      have HTX := hide (show (tx f.1).length ≤ 1010 by
        have h1 := HFK.out.1
        have := sm_len_le10 (n := f.1.length) (by omega)
        simp only [tx, List.length_append]; omega)
      -- the file's copy, its name
      obtain ⟨w2, hw2⟩ : ∃ w2, w2 = wr.alloc (.cells #[.string (bs f.1), .slice a2 m c2] 43) := ⟨_, rfl⟩
      have hblk : w2.heap[wr.heap.size]? = some (.cells #[.string (bs f.1), .slice a2 m c2] 43 (0, 0)) := by rw [hw2]; exact heap_alloc_new wr _
      have hb2 : Below wr.heap.size wr w2 := by rw [hw2]; exact (Below.refl _ _).alloc (Nat.le_refl _) _
      have hlt2 : wr.heap.size < w2.heap.size := by rw [hw2]; simp
      have hbel2 : Below w.heap.size w w2 := hbel.trans (hb2.mono hbel.size)
      have HO2 := hide (hown.out.carry hb2)
      go_wp2_with fail
      rw [← hw2]
      clear hown
      refine (text_by f.1 _ (by have := HFK.out.1; omega)).mono ?_
      rintro e w3 ⟨v3, rfl, ho3, hb3⟩
      have hbel3 : Below w.heap.size w w3 := hbel2.trans (hb3.mono hbel2.size)
      obtain ⟨v4, w4, hrun4, ho4, hb4, hk4⟩ := app_by (HO2.out.carry hb3) hbel3.size (own_rd ho3) (by
        have h1 := HSM.out
        have h2 := HLL.out
        have h3 := HTX.out
        rw [List.length_append]; omega)
      have hbel4 : Below w.heap.size w w4 := hbel3.trans hb4
      have hblk4 := hk4 _ _ _ _ (by decide) (KeepB.of_below hb3 _ _ _ _ (by decide) hblk)
      have r4 : w4.cell? ⟨wr.heap.size, 1, none⟩ = some (.slice a2 m c2) := by rw [cell_of_row w4 wr.heap.size 1 _ _ (0, 0) hblk4]; rfl
      have HO4 := hide ho4
      have HB4 := hide hbel4
      have HK4 := hide hblk4
      clear ho4 hbel4 hb4 hk4 ho3 hb3 hbel3 hblk hb2 hw2 hlt2 hbel2 HO2 hblk4 hbel q0 q1
      go_wp2_with (first | (at_builtin; refine wpList_runappE rfl (.tmp 18) (.tmp 21) 22 rfl rfl rfl rfl hrun4 ?_) | fail)
      refine (small_by m _ (by omega)).mono ?_
      rintro e w5 ⟨v5, rfl, ho5, hb5⟩
      have hbel5 : Below w.heap.size w w5 := HB4.out.trans (hb5.mono HB4.out.size)
      obtain ⟨v6, w6, hrun6, ho6, hb6, hk6⟩ := app_by (HO4.out.carry hb5) hbel5.size (own_rd ho5) (by
        have h1 := HSM.out
        have h2 := HLL.out
        have h3 := HTX.out
        have h4 := HSM2.out
        simp only [List.length_append]; omega)
      have hbel6 : Below w.heap.size w w6 := hbel5.trans hb6
      have hblk6 := hk6 _ _ _ _ (by decide) (KeepB.of_below hb5 _ _ _ _ (by decide) HK4.out)
      have r6 : w6.cell? ⟨wr.heap.size, 1, none⟩ = some (.slice a2 m c2) := by rw [cell_of_row w6 wr.heap.size 1 _ _ (0, 0) hblk6]; rfl
      have HO6 := hide ho6
      have HB6 := hide hbel6
      clear ho6 hbel6 hb6 hk6 ho5 hb5 hbel5 hblk6 HO4 HB4 HK4 r4 hrun4
      go_wp2_with (at_builtin; refine wpList_runappE rfl (.tmp 23) (.tmp 28) 22 rfl rfl rfl rfl hrun6 ?_)
      go_loopw [33, 3] (fun i v wx => ∃ j : Nat, j ≤ m ∧ i = .int .i64 j ∧ Hid (OwBy wx w.heap.size v (sm n ++ L ++ tx f.1 ++ sm m ++ bytE (f.2.take j))) ∧ Below w.heap.size w wx) (fun i _ _ => m - (intOf i).toNat)
      case atStart => exact ⟨0, Nat.zero_le _, rfl, hide (by simpa [bytE] using HO6.out), HB6.out⟩
      case round =>
        obtain ⟨j, hj, rfl, hown, hbel⟩ := hrel
        have HLT := hide hlt
        clear HO6 HB6 r6 hrun6 hlt' hlt
        by_cases hjm : j < m
        · have hjm' : (j : Int) < m := by omega
          have hjl : j < f.2.length := by have := HM2.out; omega
          have HE := hide (bytE_take f.2 j hjl)
          obtain ⟨bx, ox, rfl, p0, p1⟩ := (HQ.out.carry hbel).at j hjl
          have HX := hide (HFK.out.2.2 _ (List.getElem_mem hjl))
          have HBE := hide (show (bytE (f.2.take j)).length ≤ 20000 by
            have := bytE_len (f.2.take j) (fun x hx => HFK.out.2.2 x (List.mem_of_mem_take hx))
            have h2 := HFK.out.2.1
            rw [List.length_take] at this; omega)
          obtain ⟨x, hx⟩ : ∃ x, x = f.2[j] := ⟨_, rfl⟩
          rw [← hx] at p0 p1 HE HX
          clear hx
          obtain ⟨x, y⟩ := x
          obtain ⟨x, rfl⟩ : ∃ p : Nat, x = p := ⟨x.toNat, by have := HX.out.1; simp only at this; omega⟩
          obtain ⟨y, rfl⟩ : ∃ p : Nat, y = p := ⟨y.toNat, by have := HX.out.2.2.1; simp only at this; omega⟩
          have hx1 : x ≤ 4096 := by have := HX.out.2.1; simp only at this; omega
          have hy1 : y ≤ 4096 := by have := HX.out.2.2.2; simp only at this; omega
          simp only at p0 p1
          have HE2 := hide (show bytE (f.2.take (j + 1)) = bytE (f.2.take j) ++ (sm x ++ sm y) by have := HE.out; simpa [bytX] using this)
          clear HE HX
          obtain ⟨M, hM⟩ : ∃ M, M = sm n ++ L ++ tx f.1 ++ sm m ++ bytE (f.2.take j) := ⟨_, rfl⟩
          have HML := hide (show M.length ≤ 100000000 by
            have h1 := HSM.out
            have h2 := HLL.out
            have h3 := HTX.out
            have h4 := HSM2.out
            have h5 := HBE.out
            rw [hM]
            simp only [List.length_append]; omega)
          rw [← hM] at hown
          have HM := hide hM
          clear hM
          have HSX := hide (sm_len_le10 (n := x) (by omega))
          have HSY := hide (sm_len_le10 (n := y) (by omega))
          obtain ⟨w2, hw2⟩ : ∃ w2, w2 = wr.alloc (.cells #[.int .i64 (x : Int), .int .i64 (y : Int)] 45) := ⟨_, rfl⟩
          have hblk : w2.heap[wr.heap.size]? = some (.cells #[.int .i64 (x : Int), .int .i64 (y : Int)] 45 (0, 0)) := by rw [hw2]; exact heap_alloc_new wr _
          have hb2 : Below wr.heap.size wr w2 := by rw [hw2]; exact (Below.refl _ _).alloc (Nat.le_refl _) _
          have hbel2 : Below w.heap.size w w2 := hbel.trans (hb2.mono hbel.size)
          have HO2 := hide (hown.out.carry hb2)
          clear hown
          go_wp2_with fail
          rw [← hw2]
          refine (small_by x _ (by omega)).mono ?_
          rintro e w3 ⟨v3, rfl, ho3, hb3⟩
          have hbel3 : Below w.heap.size w w3 := hbel2.trans (hb3.mono hbel2.size)
          obtain ⟨v4, w4, hrun4, ho4, hb4, hk4⟩ := app_by (HO2.out.carry hb3) hbel3.size (own_rd ho3) (by
            have h1 := HML.out
            have h2 := HSX.out
            omega)
          have hbel4 : Below w.heap.size w w4 := hbel3.trans hb4
          have hblk4 := hk4 _ _ _ _ (by decide) (KeepB.of_below hb3 _ _ _ _ (by decide) hblk)
          have r4 : w4.cell? ⟨wr.heap.size, 1, none⟩ = some (.int .i64 (y : Int)) := by rw [cell_of_row w4 wr.heap.size 1 _ _ (0, 0) hblk4]; rfl
          have HO4 := hide ho4
          have HB4 := hide hbel4
          clear ho4 hbel4 hb4 hk4 ho3 hb3 hbel3 hblk hb2 hw2 hbel2 HO2 hblk4 hbel p0 p1
          go_wp2_with (first | (at_builtin; refine wpList_runappE rfl (.tmp 37) (.tmp 41) 22 rfl rfl rfl rfl hrun4 ?_) | fail)
          refine (small_by y _ (by omega)).mono ?_
          rintro e w5 ⟨v5, rfl, ho5, hb5⟩
          have hbel5 : Below w.heap.size w w5 := HB4.out.trans (hb5.mono HB4.out.size)
          obtain ⟨v6, w6, hrun6, ho6, hb6, hk6⟩ := app_by (HO4.out.carry hb5) hbel5.size (own_rd ho5) (by
            have h1 := HML.out
            have h2 := HSX.out
            have h3 := HSY.out
            simp only [List.length_append]; omega)
          have HO6 := hide ho6
          have HB6 := hide (hbel5.trans hb6)
          clear ho6 hb6 hk6 ho5 hb5 hbel5 HO4 HB4 r4 hrun4
          go_wp2_with (at_builtin; refine wpList_runappE rfl (.tmp 43) (.tmp 47) 22 rfl rfl rfl rfl hrun6 ?_)
          go_roundw
          case rel => exact ⟨j + 1, by omega, rfl, hide (by
            rw [HE2.out]
            have := HO6.out
            rw [HM.out] at this
            simpa using this), HB6.out⟩
          case measure => simp only [intOf]; omega
        · have hd2 : decide ((j : Int) < m) = false := by simpa using (by omega : ¬ (j : Int) < m)
          have e : j = f.2.length := by have := HM2.out; omega
          rw [e, List.take_length] at hown
          have HO := hide (hown.out)
          clear e hown
          go_wp2
          go_roundw
          case rel => exact ⟨k + 1, HLT.out, rfl, hide (by
            rw [HU.out]
            have := HO.out
            rw [HM2.out] at this
            simpa [bytFl] using this), hbel⟩
          case measure => have := HLT.out; simp only [intOf]; omega
    · have hd : decide ((k : Int) < n) = false := by simpa using (by omega : ¬ (k : Int) < n)
      have e : k = fs.length := by have := HN.out; omega
      rw [e, List.take_length] at hown
      clear e
      go_wp2
      go_ret
      exact ⟨_, rfl, by have := hown.out; rw [HN.out] at this; exact this, hbel⟩

theorem usedF_len : ∀ (fs : List Fl) (m : Nat), (∀ f ∈ fs, f.2.length ≤ m) → (usedF fs).length ≤ m * fs.length
  | [], m, _ => by simp [usedF]
  | f :: fs, m, h => by
    have ih := usedF_len fs m (fun g hg => h g (by simp [hg]))
    have h0 := h f (by simp)
    unfold usedF at ih ⊢
    simp only [List.flatMap_cons, List.length_append, List.length_cons, Nat.mul_add]
    omega
theorem each_used {fs : List Fl} (h : eachP fs) (hl : fs.length ≤ 40) : (usedF fs).length ≤ 2560 := by
  have := usedF_len fs 64 (fun f hf => (oneF_parts (h.1 f hf)).2.2.2)
  omega
theorem okB_of {fs : List Fl} {B : Int} (hl : fs.length ≤ 1000) (he : ∀ f ∈ fs, f.1.length ≤ 1000 ∧ f.2.length ≤ 1000) (hx : chkX (usedF fs) = 0) : okB fs := by
  refine ⟨hl, fun f hf => ⟨(he f hf).1, (he f hf).2, fun x hx2 => ?_⟩⟩
  have := (chkX_rng hx).2 x (List.mem_flatMap.2 ⟨f, hf, hx2⟩)
  omega
theorem okB_may {fs : List Fl} {B : Int} (hl : fs.length ≤ 40) (he : eachP fs) (hx : extP (usedF fs) B) : okB fs :=
  okB_of (B := B) (by omega) (fun f hf => by have := oneF_parts (he.1 f hf); omega) hx.1

set_option maxHeartbeats 1000000 in
theorem fits_any (a : Option Addr) (n c : Nat) (fs : List Fl) (w : World) (hrd : RdF w (.slice a n c) fs) (hn : n = fs.length) (hok : okB fs) :
    Calls Try.prog 71 #[.slice a n c] w fun e w' => e = .returned (.bool (decide ((bytF fs).length ≤ 2048))) ∧ Below w.heap.size w w' := by
  have hby := bytesOf_any a n c fs w hrd hn hok
  clear hrd hn hok
  obtain ⟨L, hL⟩ : ∃ L, L = bytF fs := ⟨_, rfl⟩
  rw [← hL] at hby ⊢
  clear hL
  go_enter Try.func71, Try.ntmps71
  go_wp2_with fail
  refine hby.mono ?_
  rintro e w1 ⟨v1, rfl, ho1, hb1⟩
  obtain ⟨a1, c1, rfl⟩ : ∃ a1 c1, v1 = .slice a1 L.length c1 := by rcases ho1.2 with ⟨rfl, h0⟩ | ⟨g, cap, cur, rfl, _⟩
                                                                   · exact ⟨_, _, by rw [h0]⟩
                                                                   · exact ⟨_, _, rfl⟩
  clear ho1 hby
  obtain ⟨m, hm⟩ : ∃ m, m = L.length := ⟨_, rfl⟩
  rw [← hm]
  have HM := hide hm
  clear hm
  go_wp2
  go_ret
  exact ⟨by have := HM.out; simp; omega, hb1⟩

end Go.Proofs.Ytlibnefibeikcaa
