/-
  Plain mathematics of a log's file: a new log; a log that is committed, and opened again.
-/
import Derived.Test.YtmeaiocohalphaaGreatDoorMathFs6
import Derived.Test.YtmeaiocohalphaaGreatDoorMathSl
import Derived.Test.YtmeaiocohalphaaGreatDoorFsFn6
namespace Go.Proofs.YtmeaiocohalphaaGreatDoor
open Go.RowKit
set_option linter.unusedVariables false
set_option linter.unusedSimpArgs false
theorem like_of {f g : Fsd} {but : List UInt8} (hf : okFs f) (hg : okFs g) (hd : g.2.2.1 = f.2.2.1) (hb : ∀ k : Nat, 34 ≤ k → k < mny f.1 → nowD g.1 k = nowD f.1 k) : Like f g but := by
 intro x hx _
 have h1 := (file_in hf hx).2.2.2.2
 have h2 : sizeE g x.1 = 0 := by rw [size_dir hd hf hg]; exact h1
 refine ⟨h1, h2, cont_same h1 h2 (blo_dir hd x.1).1 ?_⟩
 intro n hn
 have := blo_rng2 h1 n hn
 exact hb _ (by omega) (by omega)
theorem last_le {f : Fsd} (h : okFs f) : (lastS f.1 (f.2.1 % 2)).1 ≤ f.2.1 := by
 obtain ⟨_, _, hg, hL⟩ := okFs_disk h
 obtain ⟨_, _, _, hb⟩ := latestS_ok hL
 rw [bestS_slot hb hg]
 exact Nat.le_refl _
theorem commit_all {f : Fsd} (hok : okFs f) (h : (commitFs f).2 = 0) : ∃ x, commitFs f = ((x, f.2.1 + 1, f.2.2.1, f.2.2.1), 0) ∧ okFs (x, f.2.1 + 1, f.2.2.1, f.2.2.1) ∧ x.2.1 = [] ∧ mny x = mny f.1 ∧ f.2.1 + 1 < 4294967296 ∧ Like f (x, f.2.1 + 1, f.2.2.1, f.2.2.1) [] := by
 rw [commit_is] at h ⊢
 unfold comFs at h ⊢
 rw [if_neg (by rw [fsE_of hok]; decide)] at h ⊢
 obtain ⟨h1, h2, h3, h4⟩ := okFs_disk hok
 have hlt := (okFs_size hok).2
 by_cases hg : f.2.1 = 4294967295
 ·rw [if_pos hg] at h; cases h
 ·rw [if_neg hg] at h ⊢
  cases ho : onesD f.1 (actsF (f.2.1 + 1) (bytF f.2.2.1)) with
  | none => rw [ho] at h; cases h
  | some x =>
   have hc := hok.2.2.2.2.2
   have hx := commit_ok h1 h2 hok.2.2.1 hc (by omega) (last_le hok) ho
   have hb : (bytF f.2.2.1).length ≤ 2048 := (chkF_may hc).2.2.2.2
   obtain ⟨o1, o2, o3, o4⟩ := acts_block h1 h2 (by omega) hb ho
   refine ⟨x, rfl, hx, o3, o2, by omega, like_of hok hx rfl (fun k hk hk2 => ?_)⟩
   show nowD x k = nowD f.1 k
   have e1 : nowD x k = blk x.1 k := by unfold nowD; rw [o3]; rfl
   rw [e1, o4 k hk2, if_neg (by omega), if_neg (by rw [wholeB_len]; omega), blockD_now h1 hk2]
/-! ### how many blocks can be given -/
theorem cnt_congr {p q : Int → Bool} {a : Int} : ∀ k : Nat, (∀ i : Nat, i < k → p (a + i) = q (a + i)) → cntB p a k = cntB q a k
 | 0, _ => rfl
 | k + 1, h => by
  simp only [cntB]
  rw [cnt_congr k (fun i hi => h i (by omega)), h k (by omega)]
theorem cnt_all {p : Int → Bool} {a : Int} : ∀ k : Nat, (∀ i : Nat, i < k → p (a + i) = true) → cntB p a k = k
 | 0, _ => rfl
 | k + 1, h => by
  simp only [cntB]
  rw [cnt_all k (fun i hi => h i (by omega)), h k (by omega), if_pos rfl]
  omega
theorem used_all {f : Fsd} (h : okFs f) : allX (usedFs f) = 0 ∧ usedFs f = usedF f.2.2.1 ++ usedF f.2.2.2 ∧ (∀ x ∈ usedFs f, 34 ≤ x.1 ∧ 1 ≤ x.2 ∧ x.1 + x.2 ≤ mny f.1) := by
 have hc := h.2.2.2.2.2
 have hk := kept_chk h
 have e1 : usedL f.2.2.1 = usedF f.2.2.1 := by unfold usedL; rw [if_pos (chkF_top hc)]
 have e2 : usedL f.2.2.2 = usedF f.2.2.2 := by unfold usedL; rw [if_pos (chkF_top hk)]
 have m1 := (chkF_may hc).2
 have m2 := (chkF_may hk).2
 have hx : ∀ x ∈ usedFs f, 34 ≤ x.1 ∧ 1 ≤ x.2 ∧ x.1 + x.2 ≤ mny f.1 := by
  intro x hx
  unfold usedFs at hx
  rw [e1, e2] at hx
  rcases List.mem_append.1 hx with hx | hx
  ·exact extP_all m1.2.2.1 x hx
  ·exact extP_all m2.2.2.1 x hx
 have hmm := ((okD_iff f.1).1 (okFs_disk h).1).2.2.1
 have l1 : ∀ {fs : List Fl} {B : Int}, mayF fs B → (usedF fs).length ≤ 2048 := by
  intro fs B hm
  have := usedF_len fs 64 (fun g hg => by have := may_one hm g hg; omega)
  have := hm.1
  have hb := hm.2.2.2
  -- the bytes bound the extents
  have hle : (usedF fs).length ≤ (bytF fs).length := by
   have : ∀ fs : List Fl, (usedF fs).length ≤ (fs.flatMap bytFl).length := by
    intro fs
    induction fs with
    | nil => simp [usedF]
    | cons g fs ih =>
     have e : usedF (g :: fs) = g.2 ++ usedF fs := rfl
     rw [e, List.length_append, List.flatMap_cons, List.length_append]
     have h2 : g.2.length ≤ (bytFl g).length := by
      unfold bytFl
      rw [List.length_append, List.length_append]
      have : ∀ l : List Ex, l.length ≤ (bytE l).length := by
       intro l
       induction l with
       | nil => simp [bytE]
       | cons x l ih =>
        have e : bytE (x :: l) = bytX x ++ bytE l := rfl
        rw [e, List.length_append, List.length_cons]
        have : 1 ≤ (bytX x).length := by
         unfold bytX
         rw [List.length_append]
         have := sm_pos x.1.toNat
         omega
        omega
      have := this g.2
      omega
     omega
   have := this fs
   unfold bytF
   rw [List.length_append]
   omega
  omega
 refine ⟨?_, ?_, hx⟩
 ·refine allX_mk ?_ (fun x hx' => by have := hx x hx'; omega)
  unfold usedFs
  rw [e1, e2, List.length_append]
  have := l1 m1
  have := l1 m2
  omega
 ·unfold usedFs; rw [e1, e2]
theorem free_ok {f : Fsd} (h : okFs f) : freeE 34 (mnyFs f) (usedFs f) = 0 := by
 have h1 := (okFs_disk h).1
 rw [mnyFs_ok h1]
 unfold freeE
 have hmm := ((okD_iff f.1).1 h1).2.2.1
 have := (okFs_disk h).2.1
 rw [if_neg (by omega), (used_all h).1]
theorem room_cnt {f : Fsd} (h : okFs f) : roomE f = 0 ∧ roomN f = cntB (fun n => !inL (usedFs f) n) 34 (mny f.1 - 34) := by
 have h1 := (okFs_disk h).1
 have h2 := (okFs_disk h).2.1
 have hmm := ((okD_iff f.1).1 h1).2.2.1
 have hf := free_ok h
 obtain ⟨r1, r2, r3⟩ := freeL_rise hf
 have hm := mnyFs_ok h1
 have hch : chkX (freeL 34 (mnyFs f) (usedFs f)) = 0 := riseX_chk r1 (by decide) (by rw [hm]; omega) r3
 have he := fsE_of h
 refine ⟨?_, ?_⟩
 ·unfold roomE; rw [if_neg (by rw [he]; decide), if_neg (by rw [hf]; decide), hch]
 ·unfold roomN
  rw [if_neg (by rw [he]; decide), if_neg (by rw [hf]; decide)]
  unfold manyR
  rw [if_pos hch]
  rw [manyX_cnt (a := 34) (k := mny f.1 - 34) _ (fun x hx => by have := r1.1 x hx; rw [hm] at this; omega) (chkX_ok hch).2]
  apply cnt_congr
  intro i hi
  rw [r2, hm]
  rw [decide_eq_true (by omega), decide_eq_true (by omega)]
  simp
theorem cnt_not {p : Int → Bool} {a : Int} (k : Nat) : cntB (fun n => !p n) a k = k - cntB p a k := by
 have h1 := cntB_or (p := p) (q := fun n => !p n) a k (fun i _ hp => by simp [hp])
 have h2 := cnt_all (p := fun n => p n || !p n) (a := a) k (fun i _ => by simp)
 omega
theorem many_dir {f : Fsd} (h : okFs f) : manyX (usedF f.2.2.1) = cntB (inL (usedF f.2.2.1)) 34 (mny f.1 - 34) := by
 have hm := okFs_may h
 have := (okFs_disk h).2.1
 exact manyX_cnt _ (fun x hx => by have := extP_all hm.2.2.1 x hx; omega) (extP_parts.1 hm.2.2.1).1
theorem blocks_many {l : List Ex} (h : ∀ x ∈ l, 0 ≤ x.2) : ((blocksX l).length : Int) = manyX l := by
 induction l with
 | nil => rfl
 | cons x l ih =>
  have := ih (fun y hy => h y (List.mem_cons_of_mem _ hy))
  have hx := h x (List.mem_cons_self ..)
  have e1 : blocksX (x :: l) = blkX x x.2.toNat ++ blocksX l := rfl
  have e2 : manyX (x :: l) = x.2 + manyX l := rfl
  have e3 : (blkX x x.2.toNat).length = x.2.toNat := by simp [blkX]
  rw [e1, e2, List.length_append, e3]
  omega
def sumS (fs : List Fl) : Int := ((fs.map fun g => (blocksX g.2).length).sum : Nat)
theorem sum_many {fs : List Fl} (h : ∀ g ∈ fs, ∀ x ∈ g.2, 0 ≤ x.2) : sumS fs = manyX (usedF fs) := by
 induction fs with
 | nil => rfl
 | cons g fs ih =>
  have := ih (fun k hk => h k (List.mem_cons_of_mem _ hk))
  have hg := blocks_many (h g (List.mem_cons_self ..))
  have e1 : usedF (g :: fs) = g.2 ++ usedF fs := rfl
  have e2 : manyX (g.2 ++ usedF fs) = manyX g.2 + manyX (usedF fs) := by unfold manyX; rw [List.map_append, List.sum_append]
  rw [e1, e2, ← this, ← hg]
  unfold sumS
  rw [List.map_cons, List.sum_cons]
  omega
theorem sum_take (fs : List Fl) (k : Nat) (h : k < fs.length) : sumS (fs.take (k + 1)) = sumS (fs.take k) + (blocksX (fs[k]).2).length := by
 unfold sumS
 rw [List.take_succ_eq_append_getElem h, List.map_append, List.sum_append]
 simp
theorem sum_le {f : Fsd} (h : okFs f) (k : Nat) : 0 ≤ sumS (f.2.2.1.take k) ∧ sumS (f.2.2.1.take k) ≤ 4096 := by
 have hm := okFs_may h
 have hall : ∀ g ∈ f.2.2.1, ∀ x ∈ g.2, 0 ≤ x.2 := fun g hg x hx => by have := extP_all hm.2.2.1 x ((mem_sub hg).subset hx); omega
 have h1 := sum_many hall
 have h2 := many_dir h
 have h3 := cntB_le (inL (usedF f.2.2.1)) 34 (mny f.1 - 34)
 have hmm := ((okD_iff f.1).1 (okFs_disk h).1).2.2.1
 have e : sumS f.2.2.1 = sumS (f.2.2.1.take k) + sumS (f.2.2.1.drop k) := by
  unfold sumS
  rw [← Int.natCast_add, ← List.sum_append, ← List.map_append, List.take_append_drop]
 have a : 0 ≤ sumS (f.2.2.1.take k) := by unfold sumS; omega
 have b : 0 ≤ sumS (f.2.2.1.drop k) := by unfold sumS; omega
 omega
theorem like_sub {f g : Fsd} {but : List UInt8} (hf : okFs f) (hg : okFs g) (hd : g.1 = f.1) (hs : ∀ x ∈ f.2.2.1, x ∈ g.2.2.1) : Like f g but := by
 intro x hx _
 have h1 := file_in hf hx
 have h2 := file_in hg (hs x hx)
 refine ⟨h1.2.2.2.2, h2.2.2.2.2, cont_same h1.2.2.2.2 h2.2.2.2.2 (by rw [h1.2.2.2.1, h2.2.2.2.1]) ?_⟩
 intro n _
 rw [hd]
theorem turn_err {f : Fsd} {l : List Fl} {e : Int} (h : (turnFs f l e).2 ≠ 0) : (turnFs f l e).1 = fz := by
 unfold turnFs at *
 split
 ·rfl
 ·split
  ·rfl
  ·rename_i h0 h1
   rw [if_neg h0, if_neg h1] at h
   exact absurd rfl h
theorem rename_all {f : Fsd} {s t : List UInt8} (h : (renameFs f s t).2 = 0) : okFs f ∧ renameFs f s t = ((f.1, f.2.1, renF f.2.2.1 s t, f.2.2.2), 0) ∧ okFs (f.1, f.2.1, renF f.2.2.1 s t, f.2.2.2) ∧ sizeE f s = 0 ∧ sizeE (f.1, f.2.1, renF f.2.2.1 s t, f.2.2.2) t = 0 ∧ contF f s = contF (f.1, f.2.1, renF f.2.2.1 s t, f.2.2.2) t := by
 obtain ⟨h0, h1, h2⟩ := turn_ok h
 have hok := fsE_ok h0
 have e : renameL f.2.2.1 s t = renF f.2.2.1 s t := by unfold renameL; rw [if_pos h1]
 have ha := renamed_all hok.2.2.2.2.2 h1
 have hC : okFs (f.1, f.2.1, renF f.2.2.1 s t, f.2.2.2) := turned_ok hok ha.2.2.1
 have hr := (okFs_may hok).2.1.2
 have m1 : (s, getF f.2.2.1 s) ∈ f.2.2.1 := getF_in hr (thereE_okF ha.1).2.2
 have m2 : (t, getF f.2.2.1 s) ∈ renF f.2.2.1 s t := ins_mem.2 (.inl rfl)
 have i1 := file_in hok m1
 have i2 := file_in hC m2
 refine ⟨hok, by unfold renameFs; rw [h2, e], hC, i1.2.2.2.2, i2.2.2.2.2, ?_⟩
 have s1 : sizeE f s = 0 := i1.2.2.2.2
 have s2 : sizeE (f.1, f.2.1, renF f.2.2.1 s t, f.2.2.2) t = 0 := i2.2.2.2.2
 have b1 : bloL f s = blocksX (getF f.2.2.1 s) := i1.2.2.2.1
 have b2 : bloL (f.1, f.2.1, renF f.2.2.1 s t, f.2.2.2) t = blocksX (getF f.2.2.1 s) := i2.2.2.2.1
 unfold contF
 rw [if_neg (by rw [s1]; decide), if_neg (by rw [s2]; decide), b1, b2]
theorem taken_in {a b : Int} {l : List Ex} {n : Int} (ha : 0 ≤ a) (h : takeE a b l n = 0) : riseX a b (takeL a b l n) ∧ manyX (takeL a b l n) = n ∧ takeL a b l n ≠ [] ∧ ∀ k, inL (takeL a b l n) k = true → inL l k = false := by
 obtain ⟨f1, f2, r, f3, f4⟩ := takeE_ok h
 obtain ⟨r1, r2, r3⟩ := freeL_rise f1
 rcases cutX_spec (freeL a b l) n f2 (fun x hx => (r1.1 x hx).2.1) with ⟨k1, _⟩ | ⟨p, x, q, c, k1, k2, k3, k4, k5⟩
 ·rw [k1] at f3; cases f3
 rw [k2] at f3
 cases f3
 rw [f4]
 refine ⟨take_parts (q := q) (x := x) (y := (x.1, c)) (k1 ▸ r1) rfl k3 k4, ?_, by simp, ?_⟩
 ·unfold manyX at *
  rw [List.map_append, List.sum_append]
  simpa using k5
 ·intro k hk
  have hin : inL (freeL a b l) k = true := by
   rw [inL_iff] at hk ⊢
   obtain ⟨y, hy, h1, h2⟩ := hk
   rw [k1]
   rcases List.mem_append.1 hy with hy | hy
   ·exact ⟨y, List.mem_append_left _ hy, h1, h2⟩
   ·obtain rfl : y = (x.1, c) := by simpa using hy
    exact ⟨x, by simp, h1, by simp only at h2; omega⟩
  rw [r2] at hin
  simp only [Bool.and_eq_true, Bool.not_eq_true'] at hin
  exact hin.2
theorem create_all {f : Fsd} {s : List UInt8} {n : Int} (h : (createFs f s n).2 = 0) : okFs f ∧ createFs f s n = ((f.1, f.2.1, mkL f s n, f.2.2.2), 0) ∧ okFs (f.1, f.2.1, mkL f s n, f.2.2.2) ∧ sizeE (f.1, f.2.1, mkL f s n, f.2.2.2) s = 0 ∧ sizeN (f.1, f.2.1, mkL f s n, f.2.2.2) s = n ∧ Like f (f.1, f.2.1, mkL f s n, f.2.2.2) [] ∧ roomE (f.1, f.2.1, mkL f s n, f.2.2.2) = 0 ∧ roomN (f.1, f.2.1, mkL f s n, f.2.2.2) = roomN f - n ∧ 1 ≤ n ∧ n ≤ 4096 ∧ 0 ≤ roomN f ∧ roomN f ≤ 4096 := by
 obtain ⟨h0, h1, h2⟩ := turn_ok h
 have hok := fsE_ok h0
 obtain ⟨m1, m2, m3, m4⟩ := mk_ok h1
 have hd := (okFs_disk hok).1
 have hmm := mnyFs_ok hd
 have h34 := (okFs_disk hok).2.1
 have hm4 := ((okD_iff f.1).1 hd).2.2.1
 obtain ⟨T, hT⟩ : ∃ T, T = takeL 34 (mnyFs f) (usedFs f) n := ⟨_, rfl⟩
 rw [← hT] at m3 m4
 have ht := taken_in (by decide) m2
 rw [← hT, hmm] at ht
 rw [hmm] at m3
 have ha := created_all m3
 have hA : okFs (f.1, f.2.1, insF f.2.2.1 (s, T), f.2.2.2) := turned_ok hok ha.2.1
 have hin : (s, T) ∈ insF f.2.2.1 (s, T) := ins_mem.2 (.inl rfl)
 have hfi := file_in hA hin
 have hpos : ∀ x ∈ T, 0 ≤ x.2 := fun x hx => by have := ht.1.1 x hx; omega
 have hlen := blocks_many hpos
 rw [ht.2.1] at hlen
 rw [m4]
 refine ⟨hok, by unfold createFs; rw [h2, m4], hA, hfi.2.2.2.2, ?_, like_sub hok hA rfl (fun x hx => ins_mem.2 (.inr hx)), ?_⟩
 ·have hs : sizeE (f.1, f.2.1, insF f.2.2.1 (s, T), f.2.2.2) s = 0 := hfi.2.2.2.2
  rw [(size_ok hs).2.2]
  have hb : bloL (f.1, f.2.1, insF f.2.2.1 (s, T), f.2.2.2) s = blocksX T := hfi.2.2.2.1
  rw [hb]; exact hlen
 ·obtain ⟨c1, c2⟩ := room_cnt hA
  obtain ⟨d1, d2⟩ := room_cnt hok
  have u1 := (used_all hA).2.1
  have u2 := (used_all hok).2.1
  have hap : apX T = true := by
   have hx := (createE_ok m3).2.2.2.2.1
   exact (chkX_ok (ext_chk hx (List.sublist_append_right _ _))).2
  have hcT := manyX_cnt (a := 34) (k := mny f.1 - 34) T (fun x hx => by have := ht.1.1 x hx; omega) hap
  rw [ht.2.1] at hcT
  have hor : ∀ k, inL (usedFs (f.1, f.2.1, insF f.2.2.1 (s, T), f.2.2.2)) k = (inL (usedFs f) k || inL T k) := by
   intro k
   rw [u1, u2]
   show inL (usedF (insF f.2.2.1 (s, T)) ++ usedF f.2.2.2) k = _
   rw [Bool.eq_iff_iff]
   simp only [Bool.or_eq_true, inL_iff, List.mem_append]
   have hp := used_ins f.2.2.1 (s, T)
   constructor
   ·rintro ⟨x, hx | hx, h1, h2⟩
    ·rcases List.mem_append.1 (hp.mem_iff.1 hx) with hx | hx
     ·exact .inl ⟨x, .inl hx, h1, h2⟩
     ·exact .inr ⟨x, hx, h1, h2⟩
    ·exact .inl ⟨x, .inr hx, h1, h2⟩
   ·rintro (⟨x, hx | hx, h1, h2⟩ | ⟨x, hx, h1, h2⟩)
    ·exact ⟨x, .inl (hp.mem_iff.2 (List.mem_append_left _ hx)), h1, h2⟩
    ·exact ⟨x, .inr hx, h1, h2⟩
    ·exact ⟨x, .inl (hp.mem_iff.2 (List.mem_append_right _ hx)), h1, h2⟩
  have e1 := cntB_or (p := inL (usedFs f)) (q := inL T) 34 (mny f.1 - 34) (fun i _ hp => by
   cases e : inL T (34 + (i : Int)) with
   | false => rfl
   | true => rw [ht.2.2.2 _ e] at hp; cases hp)
  have e2 := cnt_not (p := inL (usedFs f)) (a := 34) (mny f.1 - 34)
  have e3 := cnt_not (p := fun k => inL (usedFs f) k || inL T k) (a := 34) (mny f.1 - 34)
  have e4 : roomN (f.1, f.2.1, insF f.2.2.1 (s, T), f.2.2.2) = cntB (fun k => !(inL (usedFs f) k || inL T k)) 34 (mny f.1 - 34) := by
   rw [c2]
   exact cnt_congr _ (fun i _ => by rw [hor])
  have hw := (takeE_ok m2).2.1
  have hn : n ≤ 4096 := by
   by_cases hx : n < 1 ∨ 4096 < n
   ·rw [(takeE_arg (takeE_ok m2).1 hx).1] at m2; cases m2
   ·omega
  have b1 := cntB_le (fun k => !inL (usedFs f) k) 34 (mny f.1 - 34)
  have b2 := cntB_le (inL (usedFs f)) 34 (mny f.1 - 34)
  refine ⟨c1, ?_, hw, hn, ?_, ?_⟩
  ·rw [e4, d2]; omega
  ·rw [d2]; omega
  ·rw [d2]; omega
def genF (b : List UInt8) : Nat := un4 (b.take 4)
abbrev Op := List UInt8 × Nat × Nat
theorem take_spliceF {α : Type} (cur x : List α) (off n : Nat) (h : off + x.length ≤ n) (hn : n ≤ cur.length) : (cur.take off ++ (x ++ cur.drop (off + x.length))).take n = (cur.take n).take off ++ (x ++ (cur.take n).drop (off + x.length)) := by
 have h1 : (cur.take off).length = off := by rw [List.length_take]; omega
 rw [List.take_append, List.take_append, h1, List.take_of_length_le (l := cur.take off) (by omega), List.take_of_length_le (l := x) (by omega), List.take_take, Nat.min_eq_left (by omega), List.drop_take, Nat.sub_sub]
theorem wpList_copyF {P : Program} (w : World) {ops : Array Oper} {rest : List Oper} {o : Oper} {a : Act} {Q : Exit → Act → World → Prop} (hgd : o.guard = none) (d s : Operand) (dT : TypeId)
  (ho : o.op = .call { callee := .builtin .copy, args := #[d, s], argTypes := #[dT, dT] }) (hu : P.underlying dT = some (.slice 5)) (hsz : (P.info? 5).map (·.size) = some 1)
  (base g n c off dLen dCap : Nat) (hd : a.eval d = .slice (some ⟨g, off, none⟩) dLen dCap) (v : Value) (l : List UInt8) (hs : a.eval s = v) (hrd : Rd w v l)
  (data : List UInt8) (hown : OwB w base (.slice (some ⟨g, 0, none⟩) n c) data) (hfit : off + dLen = data.length)
  (h : ∀ w', w.grownBy w' (some g) → OwB w' base (.slice (some ⟨g, 0, none⟩) n c) (splice data off (l.take dLen)) → wpList P ops Q rest (a.put o.dst (goInt (l.take dLen).length)) w') :
  wpList P ops Q (o :: rest) a w := by
 obtain ⟨sa, sc, rfl⟩ := hrd.form
 by_cases hpos : l = []
 ·subst hpos
  refine wpList_copy_nothing hgd d s dT dT ho 5 hu hsz _ _ _ _ _ _ hd hs (Nat.min_eq_left (Nat.zero_le _)) ?_
  have hh := h w (World.grownBy.refl _ _)
  have e0 : (([] : List UInt8).take dLen).length = 0 := by simp
  rw [e0] at hh
  refine hh ?_
  have e : splice data off (([] : List UInt8).take dLen) = data := by simp [splice]
  rw [e]; exact hown
 ·rcases hrd with ⟨e, _⟩ | ⟨b, of, c', e, hc, hm, hcell⟩
  ·exact absurd e hpos
  ·cases e
   have hlt : (l.take dLen).length = min dLen l.length := List.length_take
   have hlen : (u8v (l.take dLen)).length = min dLen l.length := by simp [u8v]
   obtain ⟨hx, h' | ⟨g', cap', cur, e, h1, h2, h3, h4, h5, h6⟩⟩ := hown
   ·cases h'.1
   ·cases e
    have htk : cur.toList.take data.length = u8v data := by rw [← h6, Nat.mul_one]
    have hcs : data.length ≤ cur.size := by rw [h5]; omega
    refine wpList_copy_own hgd d s dT dT ho 5 hu hsz g off _ dCap ⟨b, of, none⟩ l.length sc hd hs cur _ h2 (u8v (l.take dLen)) (by rw [hlen]; exact Nat.min_comm _ _) ?_ (by rw [hlen]; omega) (u8v_oneCell _) ?_
    ·intro j u hj
     obtain ⟨hj', rfl⟩ := u8v_getElem? (l.take dLen) j u hj
     rw [Addr.add_lit]
     rw [List.length_take] at hj'
     rw [List.getElem_take]
     exact hcell j (by omega)
    ·rw [hlen, ← hlt]
     refine h _ ⟨rfl, rfl, rfl, by simp [World.setRow], fun k _ hk => setRow_other w g k _ (fun e => hk (by rw [e]))⟩ ?_
     have hl2 : (splice data off (l.take dLen)).length = data.length := length_splice _ _ _ (by rw [hlt]; omega)
     refine ⟨by simp [u8v], .inr ⟨g, c, _, by rw [hl2], h1, setRow_heap w g _ _ _ _ h2, by rw [hl2]; exact h3, h4, ?_, ?_⟩⟩
     ·have hz : cur.toList.length = c * 1 := by rw [Array.length_toList, h5]
      simp [hlen]; omega
     ·rw [hl2, u8v_splice, hlen, Nat.mul_one]
      show ((cur.toList.take off ++ (u8v (l.take dLen) ++ cur.toList.drop (off + (l.take dLen).length))).take data.length) = _
      have hx1 : off + (u8v (l.take dLen)).length ≤ data.length := by rw [hlen]; omega
      have := take_spliceF cur.toList (u8v (l.take dLen)) off data.length hx1 (by rw [Array.length_toList]; exact hcs)
      rw [htk, hlen] at this
      rw [hlt]; exact this
def RdL (w : World) (v : Value) (ls : List (List UInt8)) : Prop :=
 (ls = [] ∧ (v = .slice none 0 0 ∨ ∃ a c, v = .slice (some a) 0 c)) ∨
 ∃ b off c, v = .slice (some ⟨b, off, none⟩) ls.length c ∧ ls.length ≤ c ∧ c ≤ maxLen ∧ ∀ j, (h : j < ls.length) → ∃ y z, w.cell? ⟨b, off + j, none⟩ = some (.slice y (ls[j]).length z) ∧ Rd w (.slice y (ls[j]).length z) ls[j]
theorem RdL.at {w : World} {a : Option Addr} {n c : Nat} {l : List (List UInt8)} (h : RdL w (.slice a n c) l) (j : Nat) (hj : j < l.length) : ∃ b off y z, a = some ⟨b, off, none⟩ ∧ w.cell? ⟨b, off + j, none⟩ = some (.slice y (l[j]).length z) ∧ Rd w (.slice y (l[j]).length z) l[j] := by
 rcases h with ⟨rfl, _⟩ | ⟨b, off, c', e, _, _, hc⟩
 ·simp at hj
 ·cases e
  obtain ⟨y, z, h1, h2⟩ := hc j hj
  exact ⟨b, off, y, z, rfl, h1, h2⟩
theorem OwBB.rdL {w : World} {base : Nat} {v : Value} {ls : List (List UInt8)} (h : OwBB w base v ls) : RdL w v ls := by
 obtain ⟨a, c, rfl⟩ := h.form
 obtain ⟨ps, e, h1, h2⟩ := h
 have h0 : OwBB w base (.slice a ls.length c) ls := ⟨ps, e, h1, h2⟩
 rcases h1.2 with ⟨e, hn⟩ | ⟨g, cap, cur, e, _, hg, hn, hm, hsz, htake⟩
 ·have : ls = [] := List.length_eq_zero_iff.1 hn
  subst this
  cases e
  exact .inl ⟨rfl, .inl rfl⟩
 ·cases e
  refine .inr ⟨g, 0, c, rfl, hn, hm, fun j hj => ?_⟩
  obtain ⟨g', y, z, e, hc, ho⟩ := h0.at j hj
  cases e
  exact ⟨y, z, by simpa using hc, ho.rd⟩
def blksW (f : Fsd) (s : List UInt8) : List (List UInt8) := if sizeE f s ≠ 0 then [] else (bloL f s).map fun n => nowD f.1 n.toNat
def headW (g : Nat) : List UInt8 := le4 g ++ List.replicate 124 0
def heldW (b : List UInt8) : Prop := genF b ≠ 0 ∧ b = headW (genF b)
instance (b : List UInt8) : Decidable (heldW b) := inferInstanceAs (Decidable (_ ∧ _))
abbrev Wl := List UInt8 × Nat × Nat × Nat × Nat × Nat
def wz : Wl := ([], 0, 0, 0, 0, 0)
def putsN (f : Fsd) (s : List UInt8) (at0 : Int) (l : List (List UInt8)) : Nat → Fsd × Int
 | 0 => (f, 0)
 | k + 1 => if (putsN f s at0 l k).2 ≠ 0 then putsN f s at0 l k else putFs (putsN f s at0 l k).1 s (at0 + k) (l.getD k [])
def putsFs (f : Fsd) (s : List UInt8) (at0 : Int) (l : List (List UInt8)) : Fsd × Int := putsN f s at0 l l.length
theorem puts_stay {f : Fsd} {s : List UInt8} {at0 : Int} {l : List (List UInt8)} {k : Nat} (h : (putsN f s at0 l k).2 ≠ 0) : ∀ j, putsN f s at0 l (k + j) = putsN f s at0 l k
 | 0 => rfl
 | j + 1 => by
  have e := puts_stay h j
  rw [← Nat.add_assoc, putsN, e, if_pos h]
/-! ### blocks -/
theorem blks_map {f : Fsd} {s : List UInt8} (h : sizeE f s = 0) : blksW f s = (bloL f s).map fun n => nowD f.1 n.toNat := by
 unfold blksW; rw [if_neg (fun e => e h)]
theorem blks_len {f : Fsd} {s : List UInt8} (h : sizeE f s = 0) : (blksW f s).length = (bloL f s).length := by rw [blks_map h, List.length_map]
theorem blks_get {f : Fsd} {s : List UInt8} (h : sizeE f s = 0) {i : Nat} (hi : i < (blksW f s).length) (hi' : i < (bloL f s).length) : (blksW f s)[i] = nowD f.1 ((bloL f s)[i]).toNat := by
 simp only [blks_map h, List.getElem_map]
theorem blks_128 {f : Fsd} {s : List UInt8} : ∀ b ∈ blksW f s, b.length = 128 := by
 intro b hb
 by_cases h : sizeE f s = 0
 ·rw [blks_map h, List.mem_map] at hb
  obtain ⟨n, hn, rfl⟩ := hb
  have := blo_rng2 h n hn
  exact now_len (okFs_disk (size_ok h).1).1 (by omega)
 ·unfold blksW at hb; rw [if_pos h] at hb; cases hb
theorem blks_4096 (f : Fsd) (s : List UInt8) : (blksW f s).length ≤ 4096 := by
 by_cases h : sizeE f s = 0
 ·rw [blks_len h]
  obtain ⟨hok, l, hl⟩ := size_there h
  obtain ⟨k, hk, e⟩ := List.getElem_of_mem hl
  have h1 := sum_take f.2.2.1 k hk
  have h2 := sum_le hok k
  have h3 := sum_le hok (k + 1)
  rw [e] at h1
  have e2 : bloL f s = blocksX l := (file_in hok hl).2.2.2.1
  rw [e2]
  have h1 : sumS (List.take (k + 1) f.2.2.1) = sumS (List.take k f.2.2.1) + (blocksX l).length := h1
  omega
 ·unfold blksW; rw [if_pos h]; exact Nat.zero_le _
theorem size_blks {f : Fsd} {s : List UInt8} (h : sizeE f s = 0) : sizeN f s = (blksW f s).length := by rw [(size_ok h).2.2, blks_len h]
theorem get_blks {f : Fsd} {s : List UInt8} (h : sizeE f s = 0) {i : Nat} (hi : i < (blksW f s).length) : getE f s i = 0 ∧ getL f s i = (blksW f s)[i] := by
 have hi' : i < (bloL f s).length := by rw [← blks_len h]; exact hi
 obtain ⟨_, _, h1, h2⟩ := get_ok h hi'
 exact ⟨h1, by rw [h2, blks_get h hi hi']⟩
def pW (f : Fsd) (s : List UInt8) (at0 : Nat) (l : List (List UInt8)) : List Pu := (List.range l.length).map fun i => ((bloL f s).getD (at0 + i) 0, l.getD i [])
theorem pW_len (f : Fsd) (s : List UInt8) (at0 : Nat) (l : List (List UInt8)) : (pW f s at0 l).length = l.length := by simp [pW]
theorem pW_get (f : Fsd) (s : List UInt8) (at0 : Nat) (l : List (List UInt8)) (i : Nat) (hi : i < (pW f s at0 l).length) : (pW f s at0 l)[i] = ((bloL f s).getD (at0 + i) 0, l.getD i []) := by simp [pW]
def acW (ps : List Pu) : List Ac := ps.map fun p => (false, p)
theorem acW_len (ps : List Pu) : (acW ps).length = ps.length := by simp [acW]
def yW (f : Fsd) (ps : List Pu) : Fsd := (((f.1.1, f.1.2.1 ++ ps, f.1.2.2 ++ acW ps) : Dk), f.2)
theorem put_one {f : Fsd} {s : List UInt8} {i : Nat} {b : List UInt8} (hok : okFs f) (hs : sizeE f s = 0) (hi : i < (bloL f s).length) (hb : b.length = 128) (hW : f.1.2.1.length < 65536) (hA : f.1.2.2.length < 65536) :
  putFs f s i b = (yW f [((bloL f s)[i], b)], 0) ∧ okFs (yW f [((bloL f s)[i], b)]) := by
 obtain ⟨h1, h2, _, _⟩ := get_ok hs hi
 have hr := blo_rng2 hs _ (List.getElem_mem hi)
 have hac : actE (mny f.1) (false, (bloL f s)[i], b) = 0 := by
  unfold actE putE
  rw [if_neg (by simp), if_neg (by show ¬ ((bloL f s)[i] < 0 ∨ _ ≤ (bloL f s)[i]); omega), if_neg (by show ¬ b.length ≠ 128; rw [hb]; simp)]
 have hone : oneD f.1 (false, (bloL f s)[i], b) = some (yW f [((bloL f s)[i], b)]).1 := by
  unfold oneD
  rw [if_neg (by show ¬ (65536 ≤ f.1.2.2.length ∨ (false = false ∧ 65536 ≤ f.1.2.1.length)); omega), if_neg (by simp)]
  rfl
 have hdo : doD f.1 [(false, (bloL f s)[i], b)] 1 = ((yW f [((bloL f s)[i], b)]).1, 0) := by
  rw [do1 (okFs_disk hok).1 hac, hone]
 have e : putFs f s i b = (yW f [((bloL f s)[i], b)], 0) := by
  rw [put_is, if_neg (by rw [fsE_of hok]; simp), if_neg (by rw [h1]; simp), h2, hdo]
  simp [yW]
 refine ⟨e, ?_⟩
 have := (put_spec (f := f) (s := s) (i := i) (b := b) (by rw [e])).1
 rw [e] at this
 exact this
theorem yW_yW (f : Fsd) (a b : List Pu) : yW (yW f a) b = yW f (a ++ b) := by simp [yW, acW]
theorem yW_nil (f : Fsd) : yW f [] = f := by simp [yW, acW]
theorem putsN_is {f : Fsd} {s : List UInt8} {at0 : Nat} {l : List (List UInt8)} (hok : okFs f) (hs : sizeE f s = 0) (h128 : ∀ b ∈ l, b.length = 128) (hat : at0 + l.length ≤ (bloL f s).length) (hW : f.1.2.1.length + l.length ≤ 65536) (hA : f.1.2.2.length + l.length ≤ 65536) :
  ∀ k, k ≤ l.length → putsN f s at0 l k = (yW f ((pW f s at0 l).take k), 0) ∧ okFs (yW f ((pW f s at0 l).take k))
 | 0, _ => by rw [List.take_zero, yW_nil]; exact ⟨rfl, hok⟩
 | k + 1, hk => by
  obtain ⟨h1, h2⟩ := putsN_is hok hs h128 hat hW hA k (by omega)
  have hpl := pW_len f s at0 l
  have hd : (yW f ((pW f s at0 l).take k)).2.2.1 = f.2.2.1 := rfl
  have hsy : sizeE (yW f ((pW f s at0 l).take k)) s = 0 := by rw [size_dir hd hok h2]; exact hs
  have hby : bloL (yW f ((pW f s at0 l).take k)) s = bloL f s := (blo_dir hd s).1
  have htk : ((pW f s at0 l).take k).length = k := by rw [List.length_take, hpl]; omega
  have hi : at0 + k < (bloL (yW f ((pW f s at0 l).take k)) s).length := by rw [hby]; omega
  have hb : (l.getD k []).length = 128 := by
   have hk' : k < l.length := by omega
   rw [List.getD_eq_getElem?_getD, List.getElem?_eq_getElem hk']; exact h128 _ (List.getElem_mem hk')
  obtain ⟨p1, p2⟩ := put_one (b := l.getD k []) h2 hsy hi hb (by show (f.1.2.1 ++ _).length < 65536; rw [List.length_append, htk]; omega) (by show (f.1.2.2 ++ acW _).length < 65536; rw [List.length_append, acW_len, htk]; omega)
  have e : (pW f s at0 l).take (k + 1) = (pW f s at0 l).take k ++ [((bloL (yW f ((pW f s at0 l).take k)) s)[at0 + k], l.getD k [])] := by
   rw [List.take_succ_eq_append_getElem (by omega), pW_get]
   congr 2
   have h9 : at0 + k < (bloL f s).length := by omega
   refine Prod.ext ?_ rfl
   simp only [hby]
   rw [List.getD_eq_getElem?_getD, List.getElem?_eq_getElem h9]; rfl
  rw [yW_yW, ← e] at p1 p2
  refine ⟨?_, p2⟩
  rw [putsN, h1, if_neg (by simp)]
  have ei : (at0 : Int) + (k : Nat) = ((at0 + k : Nat) : Int) := by omega
  rw [ei]
  exact p1
theorem put_set {f : Fsd} {s : List UInt8} {i : Int} {b : List UInt8} (h : (putFs f s i b).2 = 0) :
  ∃ j : Nat, i = j ∧ j < (blksW f s).length ∧ blksW (putFs f s i b).1 s = (blksW f s).set j b ∧ okFs (putFs f s i b).1 ∧ (putFs f s i b).1.2 = f.2 ∧ sizeE f s = 0 ∧ sizeE (putFs f s i b).1 s = 0 ∧ mny (putFs f s i b).1.1 = mny f.1 := by
 obtain ⟨hok, d', e, ha, ho, hact⟩ := put_all h
 obtain ⟨hokF, _, _, hs, hsF, _⟩ := put_spec h
 rw [e] at hokF hsF ⊢
 obtain ⟨_, j, rfl, hj, hN⟩ := at_file hok ha
 obtain ⟨hd, hm34, _, _⟩ := okFs_disk hok
 obtain ⟨o1, o2, _⟩ := okD_one hd hact ho
 have hbl : bloL (d', f.2) s = bloL f s := (blo_dir (f := f) (g := (d', f.2)) rfl s).1
 have hlF := blks_len hsF
 have hl := blks_len hs
 obtain ⟨_, L, hL⟩ := size_there hs
 have hnd : (bloL f s).Nodup := by rw [(file_in hok hL).2.2.2.1]; exact file_nodup hok hL
 refine ⟨j, rfl, by rw [hl]; exact hj, ?_, hokF, rfl, hs, hsF, o2⟩
 apply List.ext_getElem
 ·rw [List.length_set, hlF, hl, hbl]
 ·intro k h1 h2
  have hk : k < (bloL f s).length := by rw [← hbl, ← hlF]; exact h1
  have hkf : k < (blksW f s).length := by rw [hl]; exact hk
  rw [blks_get hsF h1 (by rw [hbl]; exact hk), List.getElem_set]
  have eb : (bloL (d', f.2) s)[k]'(by rw [hbl]; exact hk) = (bloL f s)[k] := by simp only [hbl]
  rw [eb]
  have hr := blo_rng2 hs _ (List.getElem_mem hk)
  obtain ⟨n, hn⟩ : ∃ n : Nat, (bloL f s)[k] = n := ⟨((bloL f s)[k]).toNat, by omega⟩
  have hnt : ((bloL f s)[k]).toNat = n := by omega
  have hnm : n < mny f.1 := by omega
  have hw := block_write hd hact ho hnm
  rw [blockD_now o1 (by omega), blockD_now hd hnm, hN] at hw
  rw [hnt]
  show nowD d' n = _
  rw [hw]
  by_cases hjk : j = k
  ·subst hjk
   rw [if_pos hn.symm, if_pos rfl]
  ·rw [if_neg hjk, if_neg, blks_get hs hkf hk, hnt]
   intro e9
   exact hjk ((List.getElem_inj hnd).1 (e9.symm.trans hn.symm))
theorem flat_inj : ∀ (l m : List (List UInt8)), (∀ b ∈ l, b.length = 128) → (∀ b ∈ m, b.length = 128) → l.flatten = m.flatten → l = m
 | [], [], _, _, _ => rfl
 | [], c :: m, _, hm, h => by
  have := congrArg List.length h
  have hc := hm c (List.mem_cons_self ..)
  simp [hc] at this
  omega
 | b :: l, [], hl, _, h => by
  have := congrArg List.length h
  have hc := hl b (List.mem_cons_self ..)
  simp [hc] at this
 | b :: l, c :: m, hl, hm, h => by
  have hb := hl b (List.mem_cons_self ..)
  have hc := hm c (List.mem_cons_self ..)
  rw [List.flatten_cons, List.flatten_cons] at h
  obtain ⟨h1, h2⟩ := List.append_inj h (by rw [hb, hc])
  rw [h1, flat_inj l m (fun x hx => hl x (List.mem_cons_of_mem _ hx)) (fun x hx => hm x (List.mem_cons_of_mem _ hx)) h2]
theorem cont_flat {f : Fsd} {s : List UInt8} (h : sizeE f s = 0) : contF f s = (blksW f s).flatten := by
 unfold contF
 rw [if_neg (fun e => e h), blks_map h, List.flatMap]
theorem blks_cont {f g : Fsd} {s : List UInt8} (h1 : sizeE f s = 0) (h2 : sizeE g s = 0) (h : contF f s = contF g s) : blksW g s = blksW f s := by
 rw [cont_flat h1, cont_flat h2] at h
 exact (flat_inj _ _ blks_128 blks_128 h).symm
theorem blks_like {f g : Fsd} {s : List UInt8} (h : Like f g []) (hs : sizeE f s = 0) : sizeE g s = 0 ∧ blksW g s = blksW f s := by
 obtain ⟨hok, l, hl⟩ := size_there hs
 obtain ⟨h1, h2, h3⟩ := h (s, l) hl (name_pos hok hl)
 exact ⟨h2, blks_cont h1 h2 h3⟩
end Go.Proofs.YtmeaiocohalphaaGreatDoor
