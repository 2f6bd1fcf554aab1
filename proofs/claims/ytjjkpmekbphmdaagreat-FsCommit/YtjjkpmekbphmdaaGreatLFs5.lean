/-
  Are files great?
-/
import Derived.Test.YtjjkpmekbphmdaaGreatLFs4
import Derived.Test.YtjjkpmekbphmdaaGreatL2a
import Derived.Test.YtjjkpmekbphmdaaGreatFiRef1
namespace Go.Proofs.YtjjkpmekbphmdaaGreat
open Go.RowKit
set_option linter.unusedVariables false
set_option linter.unusedSimpArgs false

/-- Two states with the same directory and the same blocks from the first one on are alike. -/
theorem like_of {f g : Fsd} {but : List UInt8} (hf : okFs f) (hg : okFs g) (hd : g.2.2.1 = f.2.2.1) (hb : ∀ k : Nat, 34 ≤ k → k < mny f.1 → nowD g.1 k = nowD f.1 k) : Like f g but := by
  intro x hx _
  have h1 := (file_in hf hx).2.2.2.2
  have h2 : sizeE g x.1 = 0 := by rw [size_dir hd hf hg]; exact h1
  refine ⟨h1, h2, cont_same h1 h2 (blo_dir hd x.1).1 ?_⟩
  intro n hn
  have := blo_rng2 h1 n hn
  exact hb _ (by omega) (by omega)
theorem sync_all {f : Fsd} (h : (syncFs f).2 = 0) : okFs f ∧ okFs (syncFs f).1 ∧ (syncFs f).1.1.2.1 = [] ∧ (syncFs f).1.2 = f.2 ∧ Like f (syncFs f).1 [] ∧ Like (syncFs f).1 f [] := by
  rw [sync_is] at h ⊢
  by_cases h0 : fsE f = 0
  · have hok := fsE_ok h0
    rw [if_neg (by rw [h0]; decide)] at h ⊢
    by_cases h2 : (doD f.1 [(true, 0, [])] 1).2 = 0
    · rw [if_neg (by rw [h2]; decide)]
      obtain ⟨a1, a2, a3, a4, x, a5, a6⟩ := doD_ok h2
      rw [a6]
      have ho : oneD f.1 (true, 0, []) = some x := by
        have : onesD f.1 [(true, 0, [])] = some x := a5
        rw [onesD_one] at this
        exact this
      obtain ⟨o1, o2, _⟩ := okD_one a1 (sync_act _) ho
      obtain ⟨_, hm, _, _⟩ := okFs_disk hok
      have hs := fun n hn => block_sync (n := n) a1 (sync_act _) rfl ho hn
      have hw : x.2.1 = [] := (hs 0 (by omega)).2
      have hnow : ∀ k : Nat, k < mny f.1 → nowD x k = nowD f.1 k := fun k hk => by
        have := (hs k hk).1
        rw [blockD_now o1 (by omega), blockD_now a1 hk] at this
        exact this
      have hlow : ∀ k, k < 34 → blk x.1 k = blk f.1.1 k := fun k hk => by
        have h1 : nowD x k = blk x.1 k := by unfold nowD; rw [hw]; rfl
        have h2 : nowD f.1 k = blk f.1.1 k := by rw [← blockD_now a1 (by omega)]; exact block_low a1 hm hok.2.2.1 hk
        rw [← h1, ← h2, hnow k (by omega)]
      have hokx : okFs (x, f.2.1, f.2.2.1, f.2.2.2) := ok_same hok o1 (by rw [okD_len o1, okD_len a1, o2]) hlow (by rw [hw]; intro p hp; cases hp) hok.2.2.2.2.2
      have hokx : okFs (x, f.2) := hokx
      exact ⟨hok, hokx, hw, rfl, like_of hok hokx rfl (fun k _ hk => hnow k hk), like_of hokx hok rfl (fun k _ hk => (hnow k (by rw [← o2]; exact hk)).symm)⟩
    · rw [if_pos h2] at h; exact absurd h h2
  · rw [if_pos h0] at h; exact absurd h h0
theorem last_le {f : Fsd} (h : okFs f) : (lastS f.1 (f.2.1 % 2)).1 ≤ f.2.1 := by
  obtain ⟨_, _, hg, hL⟩ := okFs_disk h
  obtain ⟨_, _, _, hb⟩ := latestS_ok hL
  rw [bestS_slot hb hg]
  exact Nat.le_refl _
theorem commit_all {f : Fsd} (hok : okFs f) (h : (commitFs f).2 = 0) : ∃ x, commitFs f = ((x, f.2.1 + 1, f.2.2.1, f.2.2.1), 0) ∧ okFs (x, f.2.1 + 1, f.2.2.1, f.2.2.1) ∧ x.2.1 = [] ∧ mny x = mny f.1 ∧ f.2.1 + 1 < 4294967296 ∧ Like f (x, f.2.1 + 1, f.2.2.1, f.2.2.1) [] := by
  rw [commit_is] at h ⊢
  unfold comFs at h ⊢
  rw [if_neg (by rw [fsE_of hok]; decide)] at h ⊢
  obtain ⟨h1, h2, h3, h4⟩ := okFs_disk hok
  have hlt := (okFs_size hok).2
  by_cases hg : f.2.1 = 4294967295
  · rw [if_pos hg] at h; cases h
  · rw [if_neg hg] at h ⊢
    cases ho : onesD f.1 (actsF (f.2.1 + 1) (bytF f.2.2.1)) with
    | none => rw [ho] at h; cases h
    | some x =>
      have hc := hok.2.2.2.2.2
      have hx := commit_ok h1 h2 hok.2.2.1 hc (by omega) (last_le hok) ho
      have hb : (bytF f.2.2.1).length ≤ 2048 := (chkF_may hc).2.2.2.2
      obtain ⟨o1, o2, o3, o4⟩ := acts_block h1 h2 (by omega) hb ho
      refine ⟨x, rfl, hx, o3, o2, by omega, like_of hok hx rfl (fun k hk hk2 => ?_)⟩
      show nowD x k = nowD f.1 k
      have e1 : nowD x k = blk x.1 k := by unfold nowD; rw [o3]; rfl
      rw [e1, o4 k hk2, if_neg (by omega), if_neg (by rw [wholeB_len]; omega), blockD_now h1 hk2]
theorem commit_err {f : Fsd} (hok : okFs f) (h : (commitFs f).2 ≠ 0) : (commitFs f).2 = 9 := by
  rw [commit_is] at h ⊢
  unfold comFs at h ⊢
  rw [if_neg (by rw [fsE_of hok]; decide)] at h ⊢
  by_cases hg : f.2.1 = 4294967295
  · rw [if_pos hg]
  · rw [if_neg hg] at h ⊢
    cases ho : onesD f.1 (actsF (f.2.1 + 1) (bytF f.2.2.1)) with
    | none => rfl
    | some x => rw [ho] at h; exact absurd rfl h

/-! ### how many blocks can be given -/
theorem cnt_congr {p q : Int → Bool} {a : Int} : ∀ k : Nat, (∀ i : Nat, i < k → p (a + i) = q (a + i)) → cntB p a k = cntB q a k
  | 0, _ => rfl
  | k + 1, h => by
    simp only [cntB]
    rw [cnt_congr k (fun i hi => h i (by omega)), h k (by omega)]
theorem cnt_all {p : Int → Bool} {a : Int} : ∀ k : Nat, (∀ i : Nat, i < k → p (a + i) = true) → cntB p a k = k
  | 0, _ => rfl
  | k + 1, h => by
    simp only [cntB]
    rw [cnt_all k (fun i hi => h i (by omega)), h k (by omega), if_pos rfl]
    omega
theorem used_all {f : Fsd} (h : okFs f) : allX (usedFs f) = 0 ∧ usedFs f = usedF f.2.2.1 ++ usedF f.2.2.2 ∧ (∀ x ∈ usedFs f, 34 ≤ x.1 ∧ 1 ≤ x.2 ∧ x.1 + x.2 ≤ mny f.1) := by
  have hc := h.2.2.2.2.2
  have hk := kept_chk h
  have e1 : usedL f.2.2.1 = usedF f.2.2.1 := by unfold usedL; rw [if_pos (chkF_top hc)]
  have e2 : usedL f.2.2.2 = usedF f.2.2.2 := by unfold usedL; rw [if_pos (chkF_top hk)]
  have m1 := (chkF_may hc).2
  have m2 := (chkF_may hk).2
  have hx : ∀ x ∈ usedFs f, 34 ≤ x.1 ∧ 1 ≤ x.2 ∧ x.1 + x.2 ≤ mny f.1 := by
    intro x hx
    unfold usedFs at hx
    rw [e1, e2] at hx
    rcases List.mem_append.1 hx with hx | hx
    · exact extP_all m1.2.2.1 x hx
    · exact extP_all m2.2.2.1 x hx
  have hmm := ((okD_iff f.1).1 (okFs_disk h).1).2.2.1
  have l1 : ∀ {fs : List Fl} {B : Int}, mayF fs B → (usedF fs).length ≤ 2048 := by
    intro fs B hm
    have := usedF_len fs 64 (fun g hg => by have := may_one hm g hg; omega)
    have := hm.1
    have hb := hm.2.2.2
    -- the bytes bound the extents
    have hle : (usedF fs).length ≤ (bytF fs).length := by
      have : ∀ fs : List Fl, (usedF fs).length ≤ (fs.flatMap bytFl).length := by
        intro fs
        induction fs with
        | nil => simp [usedF]
        | cons g fs ih =>
          have e : usedF (g :: fs) = g.2 ++ usedF fs := rfl
          rw [e, List.length_append, List.flatMap_cons, List.length_append]
          have h2 : g.2.length ≤ (bytFl g).length := by
            unfold bytFl
            rw [List.length_append, List.length_append]
            have : ∀ l : List Ex, l.length ≤ (bytE l).length := by
              intro l
              induction l with
              | nil => simp [bytE]
              | cons x l ih =>
                have e : bytE (x :: l) = bytX x ++ bytE l := rfl
                rw [e, List.length_append, List.length_cons]
                have : 1 ≤ (bytX x).length := by
                  unfold bytX
                  rw [List.length_append]
                  have := sm_pos x.1.toNat
                  omega
                omega
            have := this g.2
            omega
          omega
      have := this fs
      unfold bytF
      rw [List.length_append]
      omega
    omega
  refine ⟨?_, ?_, hx⟩
  · refine allX_mk ?_ (fun x hx' => by have := hx x hx'; omega)
    unfold usedFs
    rw [e1, e2, List.length_append]
    have := l1 m1
    have := l1 m2
    omega
  · unfold usedFs; rw [e1, e2]
theorem free_ok {f : Fsd} (h : okFs f) : freeE 34 (mnyFs f) (usedFs f) = 0 := by
  have h1 := (okFs_disk h).1
  rw [mnyFs_ok h1]
  unfold freeE
  have hmm := ((okD_iff f.1).1 h1).2.2.1
  have := (okFs_disk h).2.1
  rw [if_neg (by omega), (used_all h).1]
theorem room_cnt {f : Fsd} (h : okFs f) : roomE f = 0 ∧ roomN f = cntB (fun n => !inL (usedFs f) n) 34 (mny f.1 - 34) := by
  have h1 := (okFs_disk h).1
  have h2 := (okFs_disk h).2.1
  have hmm := ((okD_iff f.1).1 h1).2.2.1
  have hf := free_ok h
  obtain ⟨r1, r2, r3⟩ := freeL_rise hf
  have hm := mnyFs_ok h1
  have hch : chkX (freeL 34 (mnyFs f) (usedFs f)) = 0 := riseX_chk r1 (by decide) (by rw [hm]; omega) r3
  have he := fsE_of h
  refine ⟨?_, ?_⟩
  · unfold roomE; rw [if_neg (by rw [he]; decide), if_neg (by rw [hf]; decide), hch]
  · unfold roomN
    rw [if_neg (by rw [he]; decide), if_neg (by rw [hf]; decide)]
    unfold manyR
    rw [if_pos hch]
    rw [manyX_cnt (a := 34) (k := mny f.1 - 34) _ (fun x hx => by have := r1.1 x hx; rw [hm] at this; omega) (chkX_ok hch).2]
    apply cnt_congr
    intro i hi
    rw [r2, hm]
    rw [decide_eq_true (by omega), decide_eq_true (by omega)]
    simp
theorem cnt_not {p : Int → Bool} {a : Int} (k : Nat) : cntB (fun n => !p n) a k = k - cntB p a k := by
  have h1 := cntB_or (p := p) (q := fun n => !p n) a k (fun i _ hp => by simp [hp])
  have h2 := cnt_all (p := fun n => p n || !p n) (a := a) k (fun i _ => by simp)
  omega
theorem many_dir {f : Fsd} (h : okFs f) : manyX (usedF f.2.2.1) = cntB (inL (usedF f.2.2.1)) 34 (mny f.1 - 34) := by
  have hm := okFs_may h
  have := (okFs_disk h).2.1
  exact manyX_cnt _ (fun x hx => by have := extP_all hm.2.2.1 x hx; omega) (extP_parts.1 hm.2.2.1).1
theorem blocks_many {l : List Ex} (h : ∀ x ∈ l, 0 ≤ x.2) : ((blocksX l).length : Int) = manyX l := by
  induction l with
  | nil => rfl
  | cons x l ih =>
    have := ih (fun y hy => h y (List.mem_cons_of_mem _ hy))
    have hx := h x (List.mem_cons_self ..)
    have e1 : blocksX (x :: l) = blkX x x.2.toNat ++ blocksX l := rfl
    have e2 : manyX (x :: l) = x.2 + manyX l := rfl
    have e3 : (blkX x x.2.toNat).length = x.2.toNat := by simp [blkX]
    rw [e1, e2, List.length_append, e3]
    omega
/-- How many blocks files have, one file behind the other. -/
def sumS (fs : List Fl) : Int := ((fs.map fun g => (blocksX g.2).length).sum : Nat)
theorem sum_many {fs : List Fl} (h : ∀ g ∈ fs, ∀ x ∈ g.2, 0 ≤ x.2) : sumS fs = manyX (usedF fs) := by
  induction fs with
  | nil => rfl
  | cons g fs ih =>
    have := ih (fun k hk => h k (List.mem_cons_of_mem _ hk))
    have hg := blocks_many (h g (List.mem_cons_self ..))
    have e1 : usedF (g :: fs) = g.2 ++ usedF fs := rfl
    have e2 : manyX (g.2 ++ usedF fs) = manyX g.2 + manyX (usedF fs) := by unfold manyX; rw [List.map_append, List.sum_append]
    rw [e1, e2, ← this, ← hg]
    unfold sumS
    rw [List.map_cons, List.sum_cons]
    omega
theorem sum_take (fs : List Fl) (k : Nat) (h : k < fs.length) : sumS (fs.take (k + 1)) = sumS (fs.take k) + (blocksX (fs[k]).2).length := by
  unfold sumS
  rw [List.take_succ_eq_append_getElem h, List.map_append, List.sum_append]
  simp
theorem sum_le {f : Fsd} (h : okFs f) (k : Nat) : 0 ≤ sumS (f.2.2.1.take k) ∧ sumS (f.2.2.1.take k) ≤ 4096 := by
  have hm := okFs_may h
  have hall : ∀ g ∈ f.2.2.1, ∀ x ∈ g.2, 0 ≤ x.2 := fun g hg x hx => by have := extP_all hm.2.2.1 x ((mem_sub hg).subset hx); omega
  have h1 := sum_many hall
  have h2 := many_dir h
  have h3 := cntB_le (inL (usedF f.2.2.1)) 34 (mny f.1 - 34)
  have hmm := ((okD_iff f.1).1 (okFs_disk h).1).2.2.1
  have e : sumS f.2.2.1 = sumS (f.2.2.1.take k) + sumS (f.2.2.1.drop k) := by
    unfold sumS
    rw [← Int.natCast_add, ← List.sum_append, ← List.map_append, List.take_append_drop]
  have a : 0 ≤ sumS (f.2.2.1.take k) := by unfold sumS; omega
  have b : 0 ≤ sumS (f.2.2.1.drop k) := by unfold sumS; omega
  omega
/-- Behind a commit just the blocks that the directory has not can be given. -/
theorem commit_room {f : Fsd} {x : Dk} (h : okFs (x, f.2.1 + 1, f.2.2.1, f.2.2.1)) (hok : okFs f) (hm : mny x = mny f.1) : roomE (x, f.2.1 + 1, f.2.2.1, f.2.2.1) = 0 ∧ roomN (x, f.2.1 + 1, f.2.2.1, f.2.2.1) = (mny f.1 : Int) - 34 - sumS f.2.2.1 := by
  obtain ⟨h1, h2⟩ := room_cnt h
  refine ⟨h1, ?_⟩
  have hu := (used_all h).2.1
  have hmy := okFs_may hok
  have hall : ∀ g ∈ f.2.2.1, ∀ x ∈ g.2, 0 ≤ x.2 := fun g hg x hx => by have := extP_all hmy.2.2.1 x ((mem_sub hg).subset hx); omega
  rw [h2]
  show cntB (fun n => !inL (usedFs (x, f.2.1 + 1, f.2.2.1, f.2.2.1)) n) 34 (mny x - 34) = _
  rw [hu, hm, cnt_not]
  have e : cntB (inL (usedF f.2.2.1 ++ usedF f.2.2.1)) 34 (mny f.1 - 34) = cntB (inL (usedF f.2.2.1)) 34 (mny f.1 - 34) := cnt_congr _ (fun i _ => by unfold inL; rw [List.any_append, Bool.or_self])
  show ((mny f.1 - 34 : Nat) : Int) - cntB (inL (usedF f.2.2.1 ++ usedF f.2.2.1)) 34 (mny f.1 - 34) = _
  rw [e, ← many_dir hok, ← sum_many hall]
  have := (okFs_disk hok).2.1
  omega

end Go.Proofs.YtjjkpmekbphmdaaGreat
namespace Go.Proofs.YtjjkpmekbphmdaaGreat
open Go.RowKit
set_option linter.unusedVariables false
set_option linter.unusedSimpArgs false

set_option maxHeartbeats 1000000 in
set_option maxRecDepth 100000 in
theorem great6_any (x : FsV) (f : Fsd) (w : World) (h : RdX w x f) (hs : (∀ g ∈ f.2.2.1, g.2.length ≤ 1000000000000000) ∧ ∀ g ∈ f.2.2.2, g.2.length ≤ 1000000000000000) :
    Calls Tryz.prog 23 #[x.val] w fun e w' => ∃ r, e = .returned (.bool r) ∧ (r = false → (f.1.1.length ≤ 100000 ∧ f.1.2.1.length ≤ 2000 ∧ f.1.2.2.length ≤ 2000) ∧ okG f.2.2.1 ∧ okG f.2.2.2) ∧ Below w.heap.size w w' := by
  have HSZ := hide hs
  clear hs
  obtain ⟨w1, ew⟩ : ∃ w1, w.alloc (.cells x.cs 33) = w1 := ⟨_, rfl⟩
  have hb1 : Below w.heap.size w w1 := by rw [← ew]; exact (Below.refl _ _).alloc (Nat.le_refl _) _
  have HF_w1 := hide (show FsAt w1 w.heap.size x by rw [← ew]; exact Bq.new _ _ _)
  obtain ⟨k0, k1, k2, k3, k4, k5⟩ := fs_cells HF_w1.out
  have HX := hide h
  have HB_w1 := hide hb1
  clear h hb1
  unfold FsV.val
  unfold FsV.cs at ew
  go_enter Tryz.func23, Tryz.ntmps23
  go_wp2_with fail
  refine (great_any (d := f.1) w1 (HX.out.d.carry HB_w1.out)).mono ?_
  rintro e w2 ⟨⟨r1, rfl, hr1⟩, hb2⟩
  have HF_w2 := hide (HF_w1.out.carry hb2)
  have HB_w2 := hide (show Below w.heap.size w w2 from HB_w1.out.trans (hb2.mono HB_w1.out.size))
  clear k0 k1 k2 k3 k4 k5 ew hb2
  have H1 := hide hr1
  clear hr1
  cases r1 with
  | true =>
    go_wp2
    go_ret
    exact ⟨_, rfl, (fun h => by cases h), HB_w2.out⟩
  | false =>
  obtain ⟨k0, k1, k2, k3, k4, k5⟩ := fs_cells HF_w2.out
  go_wp2_with fail
  refine (great5_any _ _ _ f.2.2.1 w2 (HX.out.fl.carry HB_w2.out) HX.out.n4 HSZ.out.1).mono ?_
  rintro e w3 ⟨r2, rfl, hr2, hb3⟩
  have HF_w3 := hide (HF_w2.out.carry hb3)
  have HB_w3 := hide (show Below w.heap.size w w3 from HB_w2.out.trans (hb3.mono HB_w2.out.size))
  clear k0 k1 k2 k3 k4 k5 hb3
  have H2 := hide hr2
  clear hr2
  cases r2 with
  | true =>
    go_wp2
    go_ret
    exact ⟨_, rfl, (fun h => by cases h), HB_w3.out⟩
  | false =>
  obtain ⟨k0, k1, k2, k3, k4, k5⟩ := fs_cells HF_w3.out
  go_wp2_with fail
  refine (great5_any _ _ _ f.2.2.2 w3 (HX.out.kl.carry HB_w3.out) HX.out.n5 HSZ.out.2).mono ?_
  rintro e w4 ⟨r3, rfl, hr3, hb4⟩
  have HB_w4 := hide (show Below w.heap.size w w4 from HB_w3.out.trans (hb4.mono HB_w3.out.size))
  clear k0 k1 k2 k3 k4 k5 hb4
  have H3 := hide hr3
  clear hr3
  go_wp2
  go_ret
  exact ⟨r3, rfl, fun h => ⟨H1.out (by trivial), H2.out (by trivial), H3.out h⟩, HB_w4.out⟩

end Go.Proofs.YtjjkpmekbphmdaaGreat
