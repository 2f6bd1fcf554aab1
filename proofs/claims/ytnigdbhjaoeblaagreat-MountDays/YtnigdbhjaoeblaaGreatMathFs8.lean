/-
  Plain mathematics of files on a disk: files that are made, deleted and renamed.
-/
import Derived.Test.YtnigdbhjaoeblaaGreatMathFs6
namespace Go.Proofs.YtnigdbhjaoeblaaGreat
open Go.RowKit
set_option linter.unusedVariables false
set_option linter.unusedSimpArgs false

/-- Two states with the same directory and the same blocks from the first one on are alike. -/
theorem like_of {f g : Fsd} {but : List UInt8} (hf : okFs f) (hg : okFs g) (hd : g.2.2.1 = f.2.2.1) (hb : ∀ k : Nat, 34 ≤ k → k < mny f.1 → nowD g.1 k = nowD f.1 k) : Like f g but := by
  intro x hx _
  have h1 := (file_in hf hx).2.2.2.2
  have h2 : sizeE g x.1 = 0 := by rw [size_dir hd hf hg]; exact h1
  refine ⟨h1, h2, cont_same h1 h2 (blo_dir hd x.1).1 ?_⟩
  intro n hn
  have := blo_rng2 h1 n hn
  exact hb _ (by omega) (by omega)
theorem sync_all {f : Fsd} (h : (syncFs f).2 = 0) : okFs f ∧ okFs (syncFs f).1 ∧ (syncFs f).1.1.2.1 = [] ∧ (syncFs f).1.2 = f.2 ∧ Like f (syncFs f).1 [] ∧ Like (syncFs f).1 f [] := by
  rw [sync_is] at h ⊢
  by_cases h0 : fsE f = 0
  · have hok := fsE_ok h0
    rw [if_neg (by rw [h0]; decide)] at h ⊢
    by_cases h2 : (doD f.1 [(true, 0, [])] 1).2 = 0
    · rw [if_neg (by rw [h2]; decide)]
      obtain ⟨a1, a2, a3, a4, x, a5, a6⟩ := doD_ok h2
      rw [a6]
      have ho : oneD f.1 (true, 0, []) = some x := by
        have : onesD f.1 [(true, 0, [])] = some x := a5
        rw [onesD_one] at this
        exact this
      obtain ⟨o1, o2, _⟩ := okD_one a1 (sync_act _) ho
      obtain ⟨_, hm, _, _⟩ := okFs_disk hok
      have hs := fun n hn => block_sync (n := n) a1 (sync_act _) rfl ho hn
      have hw : x.2.1 = [] := (hs 0 (by omega)).2
      have hnow : ∀ k : Nat, k < mny f.1 → nowD x k = nowD f.1 k := fun k hk => by
        have := (hs k hk).1
        rw [blockD_now o1 (by omega), blockD_now a1 hk] at this
        exact this
      have hlow : ∀ k, k < 34 → blk x.1 k = blk f.1.1 k := fun k hk => by
        have h1 : nowD x k = blk x.1 k := by unfold nowD; rw [hw]; rfl
        have h2 : nowD f.1 k = blk f.1.1 k := by rw [← blockD_now a1 (by omega)]; exact block_low a1 hm hok.2.2.1 hk
        rw [← h1, ← h2, hnow k (by omega)]
      have hokx : okFs (x, f.2.1, f.2.2.1, f.2.2.2) := ok_same hok o1 (by rw [okD_len o1, okD_len a1, o2]) hlow (by rw [hw]; intro p hp; cases hp) hok.2.2.2.2.2
      have hokx : okFs (x, f.2) := hokx
      exact ⟨hok, hokx, hw, rfl, like_of hok hokx rfl (fun k _ hk => hnow k hk), like_of hokx hok rfl (fun k _ hk => (hnow k (by rw [← o2]; exact hk)).symm)⟩
    · rw [if_pos h2] at h; exact absurd h h2
  · rw [if_pos h0] at h; exact absurd h h0
theorem last_le {f : Fsd} (h : okFs f) : (lastS f.1 (f.2.1 % 2)).1 ≤ f.2.1 := by
  obtain ⟨_, _, hg, hL⟩ := okFs_disk h
  obtain ⟨_, _, _, hb⟩ := latestS_ok hL
  rw [bestS_slot hb hg]
  exact Nat.le_refl _
theorem commit_all {f : Fsd} (hok : okFs f) (h : (commitFs f).2 = 0) : ∃ x, commitFs f = ((x, f.2.1 + 1, f.2.2.1, f.2.2.1), 0) ∧ okFs (x, f.2.1 + 1, f.2.2.1, f.2.2.1) ∧ x.2.1 = [] ∧ mny x = mny f.1 ∧ f.2.1 + 1 < 4294967296 ∧ Like f (x, f.2.1 + 1, f.2.2.1, f.2.2.1) [] := by
  rw [commit_is] at h ⊢
  unfold comFs at h ⊢
  rw [if_neg (by rw [fsE_of hok]; decide)] at h ⊢
  obtain ⟨h1, h2, h3, h4⟩ := okFs_disk hok
  have hlt := (okFs_size hok).2
  by_cases hg : f.2.1 = 4294967295
  · rw [if_pos hg] at h; cases h
  · rw [if_neg hg] at h ⊢
    cases ho : onesD f.1 (actsF (f.2.1 + 1) (bytF f.2.2.1)) with
    | none => rw [ho] at h; cases h
    | some x =>
      have hc := hok.2.2.2.2.2
      have hx := commit_ok h1 h2 hok.2.2.1 hc (by omega) (last_le hok) ho
      have hb : (bytF f.2.2.1).length ≤ 2048 := (chkF_may hc).2.2.2.2
      obtain ⟨o1, o2, o3, o4⟩ := acts_block h1 h2 (by omega) hb ho
      refine ⟨x, rfl, hx, o3, o2, by omega, like_of hok hx rfl (fun k hk hk2 => ?_)⟩
      show nowD x k = nowD f.1 k
      have e1 : nowD x k = blk x.1 k := by unfold nowD; rw [o3]; rfl
      rw [e1, o4 k hk2, if_neg (by omega), if_neg (by rw [wholeB_len]; omega), blockD_now h1 hk2]
/-! ### how many blocks can be given -/
theorem cnt_congr {p q : Int → Bool} {a : Int} : ∀ k : Nat, (∀ i : Nat, i < k → p (a + i) = q (a + i)) → cntB p a k = cntB q a k
  | 0, _ => rfl
  | k + 1, h => by
    simp only [cntB]
    rw [cnt_congr k (fun i hi => h i (by omega)), h k (by omega)]
theorem cnt_all {p : Int → Bool} {a : Int} : ∀ k : Nat, (∀ i : Nat, i < k → p (a + i) = true) → cntB p a k = k
  | 0, _ => rfl
  | k + 1, h => by
    simp only [cntB]
    rw [cnt_all k (fun i hi => h i (by omega)), h k (by omega), if_pos rfl]
    omega
theorem used_all {f : Fsd} (h : okFs f) : allX (usedFs f) = 0 ∧ usedFs f = usedF f.2.2.1 ++ usedF f.2.2.2 ∧ (∀ x ∈ usedFs f, 34 ≤ x.1 ∧ 1 ≤ x.2 ∧ x.1 + x.2 ≤ mny f.1) := by
  have hc := h.2.2.2.2.2
  have hk := kept_chk h
  have e1 : usedL f.2.2.1 = usedF f.2.2.1 := by unfold usedL; rw [if_pos (chkF_top hc)]
  have e2 : usedL f.2.2.2 = usedF f.2.2.2 := by unfold usedL; rw [if_pos (chkF_top hk)]
  have m1 := (chkF_may hc).2
  have m2 := (chkF_may hk).2
  have hx : ∀ x ∈ usedFs f, 34 ≤ x.1 ∧ 1 ≤ x.2 ∧ x.1 + x.2 ≤ mny f.1 := by
    intro x hx
    unfold usedFs at hx
    rw [e1, e2] at hx
    rcases List.mem_append.1 hx with hx | hx
    · exact extP_all m1.2.2.1 x hx
    · exact extP_all m2.2.2.1 x hx
  have hmm := ((okD_iff f.1).1 (okFs_disk h).1).2.2.1
  have l1 : ∀ {fs : List Fl} {B : Int}, mayF fs B → (usedF fs).length ≤ 2048 := by
    intro fs B hm
    have := usedF_len fs 64 (fun g hg => by have := may_one hm g hg; omega)
    have := hm.1
    have hb := hm.2.2.2
    -- the bytes bound the extents
    have hle : (usedF fs).length ≤ (bytF fs).length := by
      have : ∀ fs : List Fl, (usedF fs).length ≤ (fs.flatMap bytFl).length := by
        intro fs
        induction fs with
        | nil => simp [usedF]
        | cons g fs ih =>
          have e : usedF (g :: fs) = g.2 ++ usedF fs := rfl
          rw [e, List.length_append, List.flatMap_cons, List.length_append]
          have h2 : g.2.length ≤ (bytFl g).length := by
            unfold bytFl
            rw [List.length_append, List.length_append]
            have : ∀ l : List Ex, l.length ≤ (bytE l).length := by
              intro l
              induction l with
              | nil => simp [bytE]
              | cons x l ih =>
                have e : bytE (x :: l) = bytX x ++ bytE l := rfl
                rw [e, List.length_append, List.length_cons]
                have : 1 ≤ (bytX x).length := by
                  unfold bytX
                  rw [List.length_append]
                  have := sm_pos x.1.toNat
                  omega
                omega
            have := this g.2
            omega
          omega
      have := this fs
      unfold bytF
      rw [List.length_append]
      omega
    omega
  refine ⟨?_, ?_, hx⟩
  · refine allX_mk ?_ (fun x hx' => by have := hx x hx'; omega)
    unfold usedFs
    rw [e1, e2, List.length_append]
    have := l1 m1
    have := l1 m2
    omega
  · unfold usedFs; rw [e1, e2]
theorem free_ok {f : Fsd} (h : okFs f) : freeE 34 (mnyFs f) (usedFs f) = 0 := by
  have h1 := (okFs_disk h).1
  rw [mnyFs_ok h1]
  unfold freeE
  have hmm := ((okD_iff f.1).1 h1).2.2.1
  have := (okFs_disk h).2.1
  rw [if_neg (by omega), (used_all h).1]
theorem room_cnt {f : Fsd} (h : okFs f) : roomE f = 0 ∧ roomN f = cntB (fun n => !inL (usedFs f) n) 34 (mny f.1 - 34) := by
  have h1 := (okFs_disk h).1
  have h2 := (okFs_disk h).2.1
  have hmm := ((okD_iff f.1).1 h1).2.2.1
  have hf := free_ok h
  obtain ⟨r1, r2, r3⟩ := freeL_rise hf
  have hm := mnyFs_ok h1
  have hch : chkX (freeL 34 (mnyFs f) (usedFs f)) = 0 := riseX_chk r1 (by decide) (by rw [hm]; omega) r3
  have he := fsE_of h
  refine ⟨?_, ?_⟩
  · unfold roomE; rw [if_neg (by rw [he]; decide), if_neg (by rw [hf]; decide), hch]
  · unfold roomN
    rw [if_neg (by rw [he]; decide), if_neg (by rw [hf]; decide)]
    unfold manyR
    rw [if_pos hch]
    rw [manyX_cnt (a := 34) (k := mny f.1 - 34) _ (fun x hx => by have := r1.1 x hx; rw [hm] at this; omega) (chkX_ok hch).2]
    apply cnt_congr
    intro i hi
    rw [r2, hm]
    rw [decide_eq_true (by omega), decide_eq_true (by omega)]
    simp
theorem cnt_not {p : Int → Bool} {a : Int} (k : Nat) : cntB (fun n => !p n) a k = k - cntB p a k := by
  have h1 := cntB_or (p := p) (q := fun n => !p n) a k (fun i _ hp => by simp [hp])
  have h2 := cnt_all (p := fun n => p n || !p n) (a := a) k (fun i _ => by simp)
  omega
theorem blocks_many {l : List Ex} (h : ∀ x ∈ l, 0 ≤ x.2) : ((blocksX l).length : Int) = manyX l := by
  induction l with
  | nil => rfl
  | cons x l ih =>
    have := ih (fun y hy => h y (List.mem_cons_of_mem _ hy))
    have hx := h x (List.mem_cons_self ..)
    have e1 : blocksX (x :: l) = blkX x x.2.toNat ++ blocksX l := rfl
    have e2 : manyX (x :: l) = x.2 + manyX l := rfl
    have e3 : (blkX x x.2.toNat).length = x.2.toNat := by simp [blkX]
    rw [e1, e2, List.length_append, e3]
    omega
end Go.Proofs.YtnigdbhjaoeblaaGreat
namespace Go.Proofs.YtnigdbhjaoeblaaGreat
open Go.RowKit
set_option linter.unusedVariables false
set_option linter.unusedSimpArgs false

/-- Files of one directory that are in the other with the same blocks, on the same disk. -/
theorem like_sub {f g : Fsd} {but : List UInt8} (hf : okFs f) (hg : okFs g) (hd : g.1 = f.1) (hs : ∀ x ∈ f.2.2.1, x ∈ g.2.2.1) : Like f g but := by
  intro x hx _
  have h1 := file_in hf hx
  have h2 := file_in hg (hs x hx)
  refine ⟨h1.2.2.2.2, h2.2.2.2.2, cont_same h1.2.2.2.2 h2.2.2.2.2 (by rw [h1.2.2.2.1, h2.2.2.2.1]) ?_⟩
  intro n _
  rw [hd]
/-- A file is deleted. -/
theorem delete_all {f : Fsd} {s : List UInt8} (h : (deleteFs f s).2 = 0) : okFs f ∧ deleteFs f s = ((f.1, f.2.1, delF f.2.2.1 s, f.2.2.2), 0) ∧ okFs (f.1, f.2.1, delF f.2.2.1 s, f.2.2.2) ∧ sizeE (f.1, f.2.1, delF f.2.2.1 s, f.2.2.2) s = 6 ∧ Like (f.1, f.2.1, delF f.2.2.1 s, f.2.2.2) f [] := by
  obtain ⟨h0, h1, h2⟩ := turn_ok h
  have hok := fsE_ok h0
  have e : deleteL f.2.2.1 s = delF f.2.2.1 s := by unfold deleteL; rw [if_pos h1]
  have ha := deleted_all hok.2.2.2.2.2 h1
  have hB : okFs (f.1, f.2.1, delF f.2.2.1 s, f.2.2.2) := turned_ok hok ha.1
  refine ⟨hok, by unfold deleteFs; rw [h2, e], hB, ?_, like_sub hB hok rfl (fun x hx => (delF_sub _ _).subset hx)⟩
  unfold sizeE
  rw [if_neg (by rw [fsE_of hB]; decide)]
  unfold bloE
  show (if thereE (delF f.2.2.1 s) s ≠ 0 then thereE (delF f.2.2.1 s) s else _) = 6
  rw [ha.2.1]
  rfl
/-- A file is renamed. -/
theorem rename_all {f : Fsd} {s t : List UInt8} (h : (renameFs f s t).2 = 0) : okFs f ∧ renameFs f s t = ((f.1, f.2.1, renF f.2.2.1 s t, f.2.2.2), 0) ∧ okFs (f.1, f.2.1, renF f.2.2.1 s t, f.2.2.2) ∧ sizeE f s = 0 ∧ sizeE (f.1, f.2.1, renF f.2.2.1 s t, f.2.2.2) t = 0 ∧ contF f s = contF (f.1, f.2.1, renF f.2.2.1 s t, f.2.2.2) t := by
  obtain ⟨h0, h1, h2⟩ := turn_ok h
  have hok := fsE_ok h0
  have e : renameL f.2.2.1 s t = renF f.2.2.1 s t := by unfold renameL; rw [if_pos h1]
  have ha := renamed_all hok.2.2.2.2.2 h1
  have hC : okFs (f.1, f.2.1, renF f.2.2.1 s t, f.2.2.2) := turned_ok hok ha.2.2.1
  have hr := (okFs_may hok).2.1.2
  have m1 : (s, getF f.2.2.1 s) ∈ f.2.2.1 := getF_in hr (thereE_okF ha.1).2.2
  have m2 : (t, getF f.2.2.1 s) ∈ renF f.2.2.1 s t := ins_mem.2 (.inl rfl)
  have i1 := file_in hok m1
  have i2 := file_in hC m2
  refine ⟨hok, by unfold renameFs; rw [h2, e], hC, i1.2.2.2.2, i2.2.2.2.2, ?_⟩
  have s1 : sizeE f s = 0 := i1.2.2.2.2
  have s2 : sizeE (f.1, f.2.1, renF f.2.2.1 s t, f.2.2.2) t = 0 := i2.2.2.2.2
  have b1 : bloL f s = blocksX (getF f.2.2.1 s) := i1.2.2.2.1
  have b2 : bloL (f.1, f.2.1, renF f.2.2.1 s t, f.2.2.2) t = blocksX (getF f.2.2.1 s) := i2.2.2.2.1
  unfold contF
  rw [if_neg (by rw [s1]; decide), if_neg (by rw [s2]; decide), b1, b2]
/-- What is taken lies in what is free. -/
theorem taken_in {a b : Int} {l : List Ex} {n : Int} (ha : 0 ≤ a) (h : takeE a b l n = 0) : riseX a b (takeL a b l n) ∧ manyX (takeL a b l n) = n ∧ takeL a b l n ≠ [] ∧ ∀ k, inL (takeL a b l n) k = true → inL l k = false := by
  obtain ⟨f1, f2, r, f3, f4⟩ := takeE_ok h
  obtain ⟨r1, r2, r3⟩ := freeL_rise f1
  rcases cutX_spec (freeL a b l) n f2 (fun x hx => (r1.1 x hx).2.1) with ⟨k1, _⟩ | ⟨p, x, q, c, k1, k2, k3, k4, k5⟩
  · rw [k1] at f3; cases f3
  rw [k2] at f3
  cases f3
  rw [f4]
  refine ⟨take_parts (q := q) (x := x) (y := (x.1, c)) (k1 ▸ r1) rfl k3 k4, ?_, by simp, ?_⟩
  · unfold manyX at *
    rw [List.map_append, List.sum_append]
    simpa using k5
  · intro k hk
    have hin : inL (freeL a b l) k = true := by
      rw [inL_iff] at hk ⊢
      obtain ⟨y, hy, h1, h2⟩ := hk
      rw [k1]
      rcases List.mem_append.1 hy with hy | hy
      · exact ⟨y, List.mem_append_left _ hy, h1, h2⟩
      · obtain rfl : y = (x.1, c) := by simpa using hy
        exact ⟨x, by simp, h1, by simp only at h2; omega⟩
    rw [r2] at hin
    simp only [Bool.and_eq_true, Bool.not_eq_true'] at hin
    exact hin.2
/-- A file is made. -/
theorem create_all {f : Fsd} {s : List UInt8} {n : Int} (h : (createFs f s n).2 = 0) : okFs f ∧ createFs f s n = ((f.1, f.2.1, mkL f s n, f.2.2.2), 0) ∧ okFs (f.1, f.2.1, mkL f s n, f.2.2.2) ∧ sizeE (f.1, f.2.1, mkL f s n, f.2.2.2) s = 0 ∧ sizeN (f.1, f.2.1, mkL f s n, f.2.2.2) s = n ∧ Like f (f.1, f.2.1, mkL f s n, f.2.2.2) [] ∧ roomE (f.1, f.2.1, mkL f s n, f.2.2.2) = 0 ∧ roomN (f.1, f.2.1, mkL f s n, f.2.2.2) = roomN f - n ∧ 1 ≤ n ∧ n ≤ 4096 ∧ 0 ≤ roomN f ∧ roomN f ≤ 4096 := by
  obtain ⟨h0, h1, h2⟩ := turn_ok h
  have hok := fsE_ok h0
  obtain ⟨m1, m2, m3, m4⟩ := mk_ok h1
  have hd := (okFs_disk hok).1
  have hmm := mnyFs_ok hd
  have h34 := (okFs_disk hok).2.1
  have hm4 := ((okD_iff f.1).1 hd).2.2.1
  obtain ⟨T, hT⟩ : ∃ T, T = takeL 34 (mnyFs f) (usedFs f) n := ⟨_, rfl⟩
  rw [← hT] at m3 m4
  have ht := taken_in (by decide) m2
  rw [← hT, hmm] at ht
  rw [hmm] at m3
  have ha := created_all m3
  have hA : okFs (f.1, f.2.1, insF f.2.2.1 (s, T), f.2.2.2) := turned_ok hok ha.2.1
  have hin : (s, T) ∈ insF f.2.2.1 (s, T) := ins_mem.2 (.inl rfl)
  have hfi := file_in hA hin
  have hpos : ∀ x ∈ T, 0 ≤ x.2 := fun x hx => by have := ht.1.1 x hx; omega
  have hlen := blocks_many hpos
  rw [ht.2.1] at hlen
  rw [m4]
  refine ⟨hok, by unfold createFs; rw [h2, m4], hA, hfi.2.2.2.2, ?_, like_sub hok hA rfl (fun x hx => ins_mem.2 (.inr hx)), ?_⟩
  · have hs : sizeE (f.1, f.2.1, insF f.2.2.1 (s, T), f.2.2.2) s = 0 := hfi.2.2.2.2
    rw [(size_ok hs).2.2]
    have hb : bloL (f.1, f.2.1, insF f.2.2.1 (s, T), f.2.2.2) s = blocksX T := hfi.2.2.2.1
    rw [hb]; exact hlen
  · obtain ⟨c1, c2⟩ := room_cnt hA
    obtain ⟨d1, d2⟩ := room_cnt hok
    have u1 := (used_all hA).2.1
    have u2 := (used_all hok).2.1
    have hap : apX T = true := by
      have hx := (createE_ok m3).2.2.2.2.1
      exact (chkX_ok (ext_chk hx (List.sublist_append_right _ _))).2
    have hcT := manyX_cnt (a := 34) (k := mny f.1 - 34) T (fun x hx => by have := ht.1.1 x hx; omega) hap
    rw [ht.2.1] at hcT
    have hor : ∀ k, inL (usedFs (f.1, f.2.1, insF f.2.2.1 (s, T), f.2.2.2)) k = (inL (usedFs f) k || inL T k) := by
      intro k
      rw [u1, u2]
      show inL (usedF (insF f.2.2.1 (s, T)) ++ usedF f.2.2.2) k = _
      rw [Bool.eq_iff_iff]
      simp only [Bool.or_eq_true, inL_iff, List.mem_append]
      have hp := used_ins f.2.2.1 (s, T)
      constructor
      · rintro ⟨x, hx | hx, h1, h2⟩
        · rcases List.mem_append.1 (hp.mem_iff.1 hx) with hx | hx
          · exact .inl ⟨x, .inl hx, h1, h2⟩
          · exact .inr ⟨x, hx, h1, h2⟩
        · exact .inl ⟨x, .inr hx, h1, h2⟩
      · rintro (⟨x, hx | hx, h1, h2⟩ | ⟨x, hx, h1, h2⟩)
        · exact ⟨x, .inl (hp.mem_iff.2 (List.mem_append_left _ hx)), h1, h2⟩
        · exact ⟨x, .inr hx, h1, h2⟩
        · exact ⟨x, .inl (hp.mem_iff.2 (List.mem_append_right _ hx)), h1, h2⟩
    have e1 := cntB_or (p := inL (usedFs f)) (q := inL T) 34 (mny f.1 - 34) (fun i _ hp => by
      cases e : inL T (34 + (i : Int)) with
      | false => rfl
      | true => rw [ht.2.2.2 _ e] at hp; cases hp)
    have e2 := cnt_not (p := inL (usedFs f)) (a := 34) (mny f.1 - 34)
    have e3 := cnt_not (p := fun k => inL (usedFs f) k || inL T k) (a := 34) (mny f.1 - 34)
    have e4 : roomN (f.1, f.2.1, insF f.2.2.1 (s, T), f.2.2.2) = cntB (fun k => !(inL (usedFs f) k || inL T k)) 34 (mny f.1 - 34) := by
      rw [c2]
      exact cnt_congr _ (fun i _ => by rw [hor])
    have hw := (takeE_ok m2).2.1
    have hn : n ≤ 4096 := by
      by_cases hx : n < 1 ∨ 4096 < n
      · rw [(takeE_arg (takeE_ok m2).1 hx).1] at m2; cases m2
      · omega
    have b1 := cntB_le (fun k => !inL (usedFs f) k) 34 (mny f.1 - 34)
    have b2 := cntB_le (inL (usedFs f)) 34 (mny f.1 - 34)
    refine ⟨c1, ?_, hw, hn, ?_, ?_⟩
    · rw [e4, d2]; omega
    · rw [d2]; omega
    · rw [d2]; omega

end Go.Proofs.YtnigdbhjaoeblaaGreat
