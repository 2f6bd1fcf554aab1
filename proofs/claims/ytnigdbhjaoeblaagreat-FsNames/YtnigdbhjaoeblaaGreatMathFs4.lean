/-
  Plain mathematics of files on a disk: what the calls come to; the files of the statements' example.
-/
import Derived.Test.YtnigdbhjaoeblaaGreatFsTop6
namespace Go.Proofs.YtnigdbhjaoeblaaGreat
open Go.RowKit
set_option linter.unusedVariables false
set_option linter.unusedSimpArgs false

theorem blockD_now {d : Dk} {n : Nat} (h : okD d = true) (hn : n < mny d) : blockD d n = nowD d n := blockD_ok h hn
theorem okD_len {d : Dk} (h : okD d = true) : d.1.length = 128 * mny d := (Fine.of_ok h).1.1
theorem block_writes : ∀ (bl : List (List UInt8)) (n : Nat) (d x : Dk), okD d = true → (∀ a ∈ wActs (n : Int) bl, actE (mny d) a = 0) → onesD d (wActs (n : Int) bl) = some x → ∀ k, k < mny d → blockD x k = if n ≤ k ∧ k < n + bl.length then bl.getD (k - n) [] else blockD d k
  | [], n, d, x, h, ha, he, k, hk => by
    cases he
    rw [if_neg (by simp only [List.length_nil]; omega)]
  | b :: bl, n, d, x, h, ha, he, k, hk => by
    have h1 := ha (false, (n : Int), b) (List.mem_cons_self ..)
    have he : (match oneD d (false, (n : Int), b) with | none => none | some y => onesD y (wActs ((n : Int) + 1) bl)) = some x := he
    cases ho : oneD d (false, (n : Int), b) with
    | none => rw [ho] at he; cases he
    | some y =>
      rw [ho] at he
      simp only at he
      obtain ⟨h2, h3, _⟩ := okD_one h h1 ho
      have hb := block_write h h1 ho hk
      have ih := block_writes bl (n + 1) y x h2 (fun a ha' => by rw [h3]; exact ha a (List.mem_cons_of_mem _ (by simpa using ha'))) (by simpa using he) k (by rw [h3]; exact hk)
      rw [ih, hb]
      simp only [List.length_cons]
      by_cases hkn : k = n
      · subst hkn
        rw [if_neg (by omega), if_pos rfl, if_pos (by omega), Nat.sub_self]
        rfl
      · rw [if_neg (show ¬ (k : Int) = (n : Int) by omega)]
        by_cases hr : n + 1 ≤ k ∧ k < n + 1 + bl.length
        · rw [if_pos hr, if_pos (by omega), show k - n = (k - (n + 1)) + 1 by omega]
          rfl
        · rw [if_neg hr, if_neg (by omega)]
/-- What the blocks have behind the acts of a commit. -/
theorem acts_block {d x : Dk} {g : Nat} {l : List UInt8} (hok : okD d = true) (hm : 34 < mny d) (hg : g ≠ 0) (hl : l.length ≤ 2048) (h : onesD d (actsF g l) = some x) :
    okD x = true ∧ mny x = mny d ∧ x.2.1 = [] ∧ ∀ k, k < mny d → blk x.1 k = if k = g % 2 then (blockS g (l.length : Nat)).1 else if 2 + g % 2 * 16 ≤ k ∧ k < 2 + g % 2 * 16 + (wholeB l).length then (wholeB l).getD (k - (2 + g % 2 * 16)) [] else blockD d k := by
  obtain ⟨o1, o2⟩ := okD_ones' hok (actsF_ok hm hg hl) h
  have e : actsF g l = [(true, 0, [])] ++ (wActs ((2 + g % 2 * 16 : Nat) : Int) (wholeB l) ++ ([(true, 0, [])] ++ ([(false, ((g % 2 : Nat) : Int), (blockS g (l.length : Nat)).1)] ++ [(true, 0, [])]))) := rfl
  rw [e, onesD_append6, onesD_one] at h
  obtain ⟨x1, a1, h⟩ := Option.bind_eq_some_iff.1 h
  rw [onesD_append6] at h
  obtain ⟨x2, a2, h⟩ := Option.bind_eq_some_iff.1 h
  rw [onesD_append6, onesD_one] at h
  obtain ⟨x3, a3, h⟩ := Option.bind_eq_some_iff.1 h
  rw [onesD_append6, onesD_one] at h
  obtain ⟨x4, a4, a5⟩ := Option.bind_eq_some_iff.1 h
  rw [onesD_one] at a5
  obtain ⟨k1, m1, _⟩ := okD_one hok (sync_act _) a1
  have hda : ∀ a ∈ wActs ((2 + g % 2 * 16 : Nat) : Int) (wholeB l), actE (mny x1) a = 0 := by rw [m1]; exact dirs_act hm hl
  obtain ⟨k2, m2⟩ := okD_ones' k1 hda a2
  obtain ⟨k3, m3, _⟩ := okD_one k2 (sync_act _) a3
  have hsa : actE (mny x3) (false, ((g % 2 : Nat) : Int), (blockS g (l.length : Nat)).1) = 0 := super_act (by omega) hg hl
  obtain ⟨k4, m4, _⟩ := okD_one k3 hsa a4
  refine ⟨o1, o2, ?_, fun k hk => ?_⟩
  · have := block_sync (n := 0) k4 (sync_act _) rfl a5 (by omega)
    exact this.2
  · have b5 := block_sync (n := k) k4 (sync_act _) rfl a5 (by omega)
    have b4 := block_write (n := k) k3 hsa a4 (by omega)
    have b3 := (block_sync (n := k) k2 (sync_act _) rfl a3 (by omega)).1
    have b2 := block_writes (wholeB l) (2 + g % 2 * 16) x1 x2 k1 hda a2 k (by omega)
    have b1 := (block_sync (n := k) hok (sync_act _) rfl a1 hk).1
    have e5 : blockD x k = blk x.1 k := by rw [blockD_ok o1 (by omega), b5.2]; rfl
    rw [← e5, b5.1, b4, b3, b2, b1]
    by_cases hk2 : k = g % 2
    · rw [if_pos (by omega), if_pos hk2]
    · rw [if_neg (by omega), if_neg hk2]
theorem blk_get {data : List UInt8} {n j : Nat} (h : 128 * n + j < data.length) (hj : j < 128) : (blk data n)[j]? = data[128 * n + j]? := by
  unfold blk
  rw [List.getElem?_take]
  rw [if_pos hj, List.getElem?_drop]
theorem genB_whole {x : Dk} {g : Nat} {l : List UInt8} (hlen : x.1.length = 128 * mny x) (hm : 34 < mny x) (hl : l.length ≤ 2048) (h : ∀ j, j < (wholeB l).length → blk x.1 (2 + g % 2 * 16 + j) = (wholeB l).getD j []) : genB x g l.length = l := by
  unfold genB
  apply List.ext_getElem?
  intro i
  rw [List.getElem?_take]
  by_cases hi : i < l.length
  · rw [if_pos hi, List.getElem?_drop]
    have hj : i / 128 < (wholeB l).length := by rw [wholeB_len]; omega
    have hb := h (i / 128) hj
    have e1 : 128 * (2 + g % 2 * 16) + i = 128 * (2 + g % 2 * 16 + i / 128) + i % 128 := by omega
    rw [e1, ← blk_get (by omega) (by omega), hb]
    rw [List.getD, List.getElem?_eq_getElem hj, Option.getD_some, wholeB_get]
    unfold padB
    rw [List.getElem?_append_left (by rw [List.length_take, List.length_drop]; omega), List.getElem?_take, if_pos (by omega), List.getElem?_drop]
    congr 1
    omega
  · rw [if_neg hi, List.getElem?_eq_none (by omega)]
theorem genB_same {x d : Dk} {g sz : Nat} (hx : x.1.length = d.1.length) (hlen : d.1.length = 128 * mny d) (hm : 34 < mny d) (hs : sz ≤ 2048) (h : ∀ k, k < 34 → blk x.1 k = blk d.1 k) : genB x g sz = genB d g sz := by
  unfold genB
  apply List.ext_getElem?
  intro i
  rw [List.getElem?_take, List.getElem?_take]
  by_cases hi : i < sz
  · rw [if_pos hi, if_pos hi, List.getElem?_drop, List.getElem?_drop]
    have e1 : 128 * (2 + g % 2 * 16) + i = 128 * (2 + g % 2 * 16 + i / 128) + i % 128 := by omega
    rw [e1, ← blk_get (by omega) (by omega), ← blk_get (by omega) (by omega), h _ (by omega)]
  · rw [if_neg hi, if_neg hi]
theorem lastS_same {x d : Dk} {n : Nat} (h : blk x.1 n = blk d.1 n) : lastS x n = lastS d n := by unfold lastS; rw [h]
theorem best_of2 {d : Dk} {gen size : Nat} (h1 : (lastS d (gen % 2)).1 ≤ gen) (h2 : lastS d ((gen + 1) % 2) = (gen + 1, size)) : bestS d = (gen + 1, size) := by
  unfold bestS laterS
  rcases (by omega : gen % 2 = 0 ∧ (gen + 1) % 2 = 1 ∨ gen % 2 = 1 ∧ (gen + 1) % 2 = 0) with ⟨e1, e2⟩ | ⟨e1, e2⟩
  · rw [e1] at h1
    rw [e2] at h2
    rw [h2]
    by_cases hg : 0 < (lastS d 0).1
    · rw [if_pos (show ((0, 0) : Nat × Nat).1 < (lastS d 0).1 from hg), if_pos (show (lastS d 0).1 < gen + 1 by omega)]
    · rw [if_neg (show ¬ ((0, 0) : Nat × Nat).1 < (lastS d 0).1 from hg), if_pos (show 0 < gen + 1 by omega)]
  · rw [e1] at h1
    rw [e2] at h2
    rw [h2, if_pos (show ((0, 0) : Nat × Nat).1 < gen + 1 by show 0 < gen + 1; omega), if_neg (show ¬ gen + 1 < (lastS d 1).1 by omega)]
/-- Writes that wait from the first block on leave the blocks below. -/
theorem last_none {l : List Pu} (h : ∀ p ∈ l, 34 ≤ p.1) {k : Nat} (hk : k < 34) : lastP (k : Int) l = none := by
  induction l with
  | nil => rfl
  | cons p l ih =>
    unfold lastP
    rw [ih (fun q hq => h q (List.mem_cons_of_mem _ hq))]
    have := h p (List.mem_cons_self ..)
    simp only
    rw [if_neg (by omega)]
theorem block_low {d : Dk} (hok : okD d = true) (hm : 34 < mny d) (hw : ∀ p ∈ d.2.1, 34 ≤ p.1) {k : Nat} (hk : k < 34) : blockD d k = blk d.1 k := by
  rw [blockD_ok hok (by omega), last_none hw hk]; rfl
/-- Behind a commit files may be. -/
theorem commit_ok {d x : Dk} {g : Nat} {D : List Fl} (hok : okD d = true) (hm : 34 < mny d) (hw : ∀ p ∈ d.2.1, 34 ≤ p.1) (hc : chkF D (mny d) = 0) (hg : g + 1 < 4294967296) (hl : (lastS d (g % 2)).1 ≤ g) (h : onesD d (actsF (g + 1) (bytF D)) = some x) : okFs (x, g + 1, D, D) := by
  have hb : (bytF D).length ≤ 2048 := (chkF_may hc).2.2.2.2
  obtain ⟨o1, o2, o3, o4⟩ := acts_block hok hm (by omega) hb h
  have hS : (blockS (g + 1) ((bytF D).length : Nat)).2 = 0 := by rw [blockS_of (by omega) (by omega) (by omega)]
  have q1 : lastS x (g % 2) = lastS d (g % 2) := by
    apply lastS_same
    rw [o4 _ (by omega), if_neg (by omega), if_neg (by omega), block_low hok hm hw (by omega)]
  have q2 : lastS x ((g + 1) % 2) = (g + 1, (bytF D).length) := by
    unfold lastS
    rw [o4 _ (by omega), if_pos rfl, ofS_block hg hS]
    rw [if_pos rfl, Int.toNat_natCast]
  have hL : latestS x = (g + 1, (bytF D).length, 0) := latestS_of o1 (by omega) (by omega) (best_of2 (by rw [q1]; exact hl) q2)
  have hG : genB x (g + 1) (bytF D).length = bytF D := genB_whole (okD_len o1) (by omega) hb (fun j hj => by
    have hj' : j ≤ 15 := by rw [wholeB_len] at hj; omega
    rw [o4 _ (by omega), if_neg (by omega), if_pos (by omega), show 2 + (g + 1) % 2 * 16 + j - (2 + (g + 1) % 2 * 16) = j by omega])
  have hR := read_back hc
  refine ⟨by rw [hL], by rw [hL], (fun p hp => by have hp : p ∈ x.2.1 := hp; rw [o3] at hp; cases hp), ?_, ?_, ?_⟩
  · show readE (genB x (g + 1) (latestS x).2.1) (mny x) = 0
    rw [hL, hG, o2]; exact hR.1
  · show readL (genB x (g + 1) (latestS x).2.1) (mny x) = D
    rw [hL, hG, o2]; exact hR.2
  · show chkF D (mny x) = 0
    rw [o2]; exact hc
/-- Files on a disk with the same data below the first block, and a directory that may be. -/
theorem ok_same {f : Fsd} {d : Dk} {D : List Fl} (h : okFs f) (hok : okD d = true) (hlen : d.1.length = f.1.1.length) (hb : ∀ k, k < 34 → blk d.1 k = blk f.1.1 k) (hw : ∀ p ∈ d.2.1, 34 ≤ p.1) (hD : chkF D (mny f.1) = 0) : okFs (d, f.2.1, D, f.2.2.2) := by
  obtain ⟨h1, h2, h3, h4⟩ := okFs_disk h
  obtain ⟨s1, s2⟩ := okFs_size h
  have hm : mny d = mny f.1 := by unfold mny; rw [hlen]
  have hL : latestS d = latestS f.1 := by
    have e1 : bestS d = bestS f.1 := by unfold bestS; rw [lastS_same (hb 0 (by omega)), lastS_same (hb 1 (by omega))]
    unfold latestS
    rw [e1, hm, chk_ok hok, chk_ok h1]
  have hG : genB d f.2.1 (latestS f.1).2.1 = genB f.1 f.2.1 (latestS f.1).2.1 := genB_same hlen (okD_len h1) h2 s1 hb
  obtain ⟨c1, c2, c3, c4, c5, c6⟩ := h
  refine ⟨by show (latestS d).2.2 = 0; rw [hL]; exact c1, by show (latestS d).1 = _; rw [hL]; exact c2, hw, ?_, ?_, ?_⟩
  · show readE (genB d f.2.1 (latestS d).2.1) (mny d) = 0
    rw [hL, hG, hm]; exact c4
  · show readL (genB d f.2.1 (latestS d).2.1) (mny d) = f.2.2.2
    rw [hL, hG, hm]; exact c5
  · show chkF D (mny d) = 0
    rw [hm]; exact hD
theorem ofS_zero : ofS (List.replicate 128 0) = (0, 0, 8) := by kernel_rfl
/-- Files on a new disk. -/
theorem format_ok {n : Int} (h1 : 34 < n) (h2 : n ≤ 4096) : ∃ x : List UInt8, formatFs n = (((x, [], []), 1, [], []), 0) ∧ okFs ((x, [], []), 1, [], []) ∧ mny (x, [], []) = n.toNat := by
  have hn : (newD n).2 = 0 := by unfold newD; rw [if_neg (by omega)]
  obtain ⟨a, b, c, d, e⟩ := newD_ok hn h1
  have hs := format_spec hn h1
  have hno : onesD (newD n).1 (actsF 1 [0]) ≠ none := by
    rw [e]
    simp [actsF, wActs, wholeB, onesD, oneD]
  cases ho : onesD (newD n).1 (actsF 1 [0]) with
  | none => exact absurd ho hno
  | some x =>
    rw [ho] at hs
    have hs : commitW (((newD n).1, 0, [], []), 0, []) = ((x, 1, [], []), 0, [0]) := hs
    have hz : lastS (newD n).1 (0 % 2) = (0, 0) := by
      have hb : blk (newD n).1.1 0 = List.replicate 128 0 := by
        rw [e]
        unfold blk
        rw [List.drop_zero, List.take_replicate, Nat.min_eq_left (by omega)]
      unfold lastS
      rw [hb, ofS_zero]
      rfl
    have hx := commit_ok (D := []) (g := 0) a b (by rw [e]; intro p hp; cases hp) (by exact chk_nil b (by omega)) (by decide) (by rw [hz]; exact Nat.le_refl 0) (by rw [byt_nil]; exact ho)
    obtain ⟨o1, o2, o3, -⟩ := acts_block a b (by decide : (1 : Nat) ≠ 0) (by simp : ([0] : List UInt8).length ≤ 2048) ho
    have hcl : okD (x.1, [], []) = true := by
      obtain ⟨p1, p2, p3, p4, p5, p6, p7⟩ := (okD_iff x).1 o1
      exact (okD_iff _).2 ⟨p1, p2, p3, by simp, by simp, by simp, by simp⟩
    refine ⟨x.1, ?_, ?_, ?_⟩
    · unfold formatFs
      rw [if_neg (by rw [hn]; decide), if_neg (by omega), hs]
      have e2 : clearD x = ((x.1, [], []), 0) := by unfold clearD; rw [if_neg (by rw [chk_ok o1]; decide), o3]
      unfold thenW
      rw [if_pos rfl]
      unfold clearW diskW endW
      simp only [e2]
      rfl
    · have := ok_same (f := (x, 0 + 1, [], [])) (d := (x.1, [], [])) (D := []) hx hcl rfl (fun k _ => rfl) (by intro p hp; cases hp) hx.2.2.2.2.2
      exact this
    · rw [← c, ← o2]; rfl

end Go.Proofs.YtnigdbhjaoeblaaGreat
namespace Go.Proofs.YtnigdbhjaoeblaaGreat
open Go.RowKit
set_option linter.unusedVariables false
set_option linter.unusedSimpArgs false

theorem then_begin {s : Stp} {f : Fsd} : endW (thenW s (beginW f)) = if fsE f ≠ 0 then (fz, fsE f) else if (s (beginW f)).2 ≠ 0 then (fz, (s (beginW f)).2) else ((s (beginW f)).1.1, 0) := by
  by_cases h : fsE f = 0
  · rw [thenW_val (show (beginW f).2.1 = 0 from h), if_neg (by rw [h]; decide)]
    rfl
  · rw [thenW_err (show (beginW f).2.1 ≠ 0 from h), if_pos h]
    unfold endW
    rw [if_pos (show (beginW f).2.1 ≠ 0 from h)]
    rfl
theorem put_is (f : Fsd) (s : List UInt8) (i : Int) (b : List UInt8) : putFs f s i b = if fsE f ≠ 0 then (fz, fsE f) else if atE f s i ≠ 0 then (fz, atE f s i) else if (doD f.1 [(false, atN f s i, b)] 1).2 ≠ 0 then (fz, (doD f.1 [(false, atN f s i, b)] 1).2) else (((doD f.1 [(false, atN f s i, b)] 1).1, f.2), 0) := by
  unfold putFs
  rw [then_begin]
  by_cases h : fsE f ≠ 0
  · rw [if_pos h, if_pos h]
  · rw [if_neg h, if_neg h]
    by_cases h1 : atE f s i ≠ 0
    · have e : putW s i b (beginW f) = (beginW f, atE f s i) := by unfold putW; rw [if_pos (show atE (beginW f).1 s i ≠ 0 from h1)]; rfl
      rw [e, if_pos h1, if_pos h1]
    · have e : putW s i b (beginW f) = writeW (atN f s i) b (beginW f) := by unfold putW; rw [if_neg (show ¬ atE (beginW f).1 s i ≠ 0 from h1)]; rfl
      rw [e, if_neg h1]
      rfl
theorem clear_is (f : Fsd) : clearFs f = if fsE f ≠ 0 then (fz, fsE f) else ((((f.1.1, f.1.2.1, []) : Dk), f.2), 0) := by
  unfold clearFs
  rw [then_begin]
  by_cases h : fsE f ≠ 0
  · rw [if_pos h, if_pos h]
  · rw [if_neg h, if_neg h]
    have h0 := fsE_ok (Decidable.not_not.1 h)
    have e : clearW (beginW f) = (diskW (beginW f) (f.1.1, f.1.2.1, []), 0) := by
      unfold clearW clearD
      have : chk (beginW f).1.1 = 0 := chk_ok (okFs_disk h0).1
      rw [this]
      rfl
    rw [e]
    rfl
theorem turn_of {f : Fsd} {l : List Fl} (h : fsE f = 0) : turnFs f l 0 = ((f.1, f.2.1, l, f.2.2.2), 0) := by
  unfold turnFs
  rw [if_neg (by rw [h]; decide), if_neg (by decide)]
/-- A directory is turned: files may be. -/
theorem turned_ok {f : Fsd} {l : List Fl} (h : okFs f) (hl : chkF l (mny f.1) = 0) : okFs (f.1, f.2.1, l, f.2.2.2) :=
  ok_same h (okFs_disk h).1 rfl (fun _ _ => rfl) h.2.2.1 hl

/-! ### the example -/
def ones6 : List UInt8 := List.replicate 128 1
def ex0 (x : List UInt8) : Fsd := ((x, [], []), 1, [], [])
def ex1 (x : List UInt8) : Fsd := ((x, [], []), 1, [([97], [(34, 3)])], [])
def ex2 (x : List UInt8) : Fsd := ((x, [(36, ones6)], [(false, 36, ones6)]), 1, [([97], [(34, 3)])], [])
def Exm (x : List UInt8) : Prop := okFs (ex0 x) ∧ mny ((x, [], []) : Dk) = 64
theorem ex0_is : ∃ x, formatFs 64 = (ex0 x, 0) ∧ Exm x := by
  obtain ⟨x, h1, h2, h3⟩ := format_ok (n := 64) (by decide) (by decide)
  exact ⟨x, h1, h2, h3⟩
section
variable {x : List UInt8}
theorem ex0_e (h : Exm x) : fsE (ex0 x) = 0 := fsE_of h.1
theorem ex0_m (h : Exm x) : mnyFs (ex0 x) = 64 := by rw [mnyFs_ok (okFs_disk h.1).1]; show ((mny ((x, [], []) : Dk) : Nat) : Int) = 64; rw [h.2]; rfl
theorem ex1_mk (h : Exm x) : mkE (ex0 x) [97] 3 = 0 ∧ mkL (ex0 x) [97] 3 = [([97], [(34, 3)])] := by
  have e : usedFs (ex0 x) = [] := by unfold usedFs ex0; kernel_rfl
  have e2 : (ex0 x).2.2.1 = [] := rfl
  unfold mkL mkE
  rw [ex0_m h, e, e2]
  exact ⟨by kernel_rfl, by kernel_rfl⟩
theorem ex1_is (h : Exm x) : createFs (ex0 x) [97] 3 = (ex1 x, 0) := by
  unfold createFs
  rw [(ex1_mk h).1, (ex1_mk h).2, turn_of (ex0_e h)]
  rfl
theorem chk_a : chkF [([97], [(34, 3)])] 64 = 0 := by kernel_rfl
theorem ex1_ok (h : Exm x) : okFs (ex1 x) := turned_ok (f := ex0 x) (l := [([97], [(34, 3)])]) h.1 (by show chkF [([97], [(34, 3)])] ((mny ((x, [], []) : Dk) : Nat) : Int) = 0; rw [h.2]; exact chk_a)
theorem ex_there : thereE [([97], [(34, 3)])] [97] = 0 := by kernel_rfl
theorem ex_getF : getF [([97], [(34, 3)])] [97] = [(34, 3)] := by kernel_rfl
theorem ex_blo (d : Dk) (g : Nat) (K : List Fl) : bloE (d, g, [([97], [(34, 3)])], K) [97] = 0 ∧ bloL (d, g, [([97], [(34, 3)])], K) [97] = [34, 35, 36] := by
  unfold bloE bloL
  rw [ex_there, ex_getF]
  exact ⟨by kernel_rfl, by kernel_rfl⟩
theorem ex_at (d : Dk) (g : Nat) (K : List Fl) : atE (d, g, [([97], [(34, 3)])], K) [97] 2 = 0 ∧ atN (d, g, [([97], [(34, 3)])], K) [97] 2 = 36 ∧ atE (d, g, [([97], [(34, 3)])], K) [97] 3 = 2 := by
  obtain ⟨h1, h2⟩ := ex_blo d g K
  have e1 : atE (d, g, [([97], [(34, 3)])], K) [97] 2 = 0 := by unfold atE; rw [h1, h2]; decide
  refine ⟨e1, ?_, ?_⟩
  · unfold atN; rw [e1, h2]; decide
  · unfold atE; rw [h1, h2]; decide
theorem act36 : actE 64 (false, 36, ones6) = 0 := by kernel_rfl
theorem ex1_m (h : Exm x) : mny (ex1 x).1 = 64 := h.2
theorem ex2_is (h : Exm x) : putFs (ex1 x) [97] 2 ones6 = (ex2 x, 0) := by
  have h1 := fsE_of (ex1_ok h)
  obtain ⟨h2, h3, _⟩ := ex_at (x, [], []) 1 []
  have h2 : atE (ex1 x) [97] 2 = 0 := h2
  have h3 : atN (ex1 x) [97] 2 = 36 := h3
  have h4 : doD (ex1 x).1 [(false, 36, ones6)] 1 = ((ex2 x).1, 0) := by
    rw [do1 (okFs_disk (ex1_ok h)).1 (by rw [ex1_m h]; exact act36)]
    rfl
  rw [put_is, if_neg (by rw [h1]; decide), if_neg (by rw [h2]; decide), h3, h4]
  rfl
theorem ex2_okD (h : Exm x) : okD (ex2 x).1 = true := by
  have h0 := (okFs_disk (ex1_ok h)).1
  exact (okD_one h0 (show actE (mny (ex1 x).1) (false, 36, ones6) = 0 by rw [ex1_m h]; exact act36) (show oneD (ex1 x).1 (false, 36, ones6) = some (ex2 x).1 from rfl)).1
theorem ex2_ok (h : Exm x) : okFs (ex2 x) := ok_same (f := ex1 x) (d := (ex2 x).1) (D := [([97], [(34, 3)])]) (ex1_ok h) (ex2_okD h) rfl (fun _ _ => rfl) (by intro p hp; have hp : p ∈ [((36, ones6) : Pu)] := hp; rw [List.mem_singleton.1 hp]; decide) (ex1_ok h).2.2.2.2.2
theorem ex2_m (h : Exm x) : mny (ex2 x).1 = 64 := h.2
theorem ex2_mf (h : Exm x) : mnyFs (ex2 x) = 64 := by rw [mnyFs_ok (ex2_okD h), ex2_m h]; rfl
theorem ex2_get (h : Exm x) : getE (ex2 x) [97] 2 = 0 ∧ getL (ex2 x) [97] 2 = ones6 ∧ getE (ex2 x) [97] 3 = 2 ∧ getL (ex2 x) [97] 3 = [] := by
  have h1 := fsE_of (ex2_ok h)
  obtain ⟨h2, h3, h5⟩ := ex_at (ex2 x).1 1 []
  have h2 : atE (ex2 x) [97] 2 = 0 := h2
  have h3 : atN (ex2 x) [97] 2 = 36 := h3
  have h5 : atE (ex2 x) [97] 3 = 2 := h5
  have h4 : readD (ex2 x).1 36 = (ones6, 0) := by
    unfold readD
    rw [if_neg (by rw [chk_ok (ex2_okD h)]; decide), if_neg (by rw [ex2_m h]; decide)]
    rfl
  refine ⟨?_, ?_, ?_, ?_⟩
  · unfold getE; rw [if_neg (by rw [h1]; decide), if_neg (by rw [h2]; decide), h3, h4]
  · unfold getL; rw [if_neg (by rw [h1]; decide), if_neg (by rw [h2]; decide), h3, h4]
  · unfold getE; rw [if_neg (by rw [h1]; decide), if_pos (by rw [h5]; decide), h5]
  · unfold getL; rw [if_neg (by rw [h1]; decide), if_pos (by rw [h5]; decide)]
theorem usedL_a : usedL [([97], [(34, 3)])] = [(34, 3)] := by kernel_rfl
theorem usedL_0 : usedL [] = [] := by kernel_rfl
theorem room_of {f : Fsd} {u : List Ex} {n : Int} (h : okFs f) (hm : mnyFs f = 64) (hu : usedFs f = u) (h1 : freeE 34 64 u = 0) (h2 : chkX (freeL 34 64 u) = 0) (h3 : manyR (freeL 34 64 u) = n) : roomE f = 0 ∧ roomN f = n := by
  have h0 := fsE_of h
  constructor
  · unfold roomE; rw [if_neg (by rw [h0]; decide), hm, hu, h1, if_neg (by decide), h2]
  · unfold roomN; rw [if_neg (by rw [h0]; decide), hm, hu, h1, if_neg (by decide), h3]
theorem ex2_room (h : Exm x) : roomE (ex2 x) = 0 ∧ roomN (ex2 x) = 27 := room_of (u := [(34, 3)]) (ex2_ok h) (ex2_mf h) (by unfold usedFs ex2; rw [usedL_a, usedL_0]; rfl) (by kernel_rfl) (by kernel_rfl) (by kernel_rfl)
end

end Go.Proofs.YtnigdbhjaoeblaaGreat
