/-
  Plain mathematics of files on a disk: a sync, a commit, how many blocks can be given.
-/
import Derived.Test.YtnigdbhjaoeblaaGreatFsTop6
namespace Go.Proofs.YtnigdbhjaoeblaaGreat
open Go.RowKit
set_option linter.unusedVariables false
set_option linter.unusedSimpArgs false

theorem blockD_now {d : Dk} {n : Nat} (h : okD d = true) (hn : n < mny d) : blockD d n = nowD d n := blockD_ok h hn
theorem okD_len {d : Dk} (h : okD d = true) : d.1.length = 128 * mny d := (Fine.of_ok h).1.1
theorem block_writes : ∀ (bl : List (List UInt8)) (n : Nat) (d x : Dk), okD d = true → (∀ a ∈ wActs (n : Int) bl, actE (mny d) a = 0) → onesD d (wActs (n : Int) bl) = some x → ∀ k, k < mny d → blockD x k = if n ≤ k ∧ k < n + bl.length then bl.getD (k - n) [] else blockD d k
  | [], n, d, x, h, ha, he, k, hk => by
    cases he
    rw [if_neg (by simp only [List.length_nil]; omega)]
  | b :: bl, n, d, x, h, ha, he, k, hk => by
    have h1 := ha (false, (n : Int), b) (List.mem_cons_self ..)
    have he : (match oneD d (false, (n : Int), b) with | none => none | some y => onesD y (wActs ((n : Int) + 1) bl)) = some x := he
    cases ho : oneD d (false, (n : Int), b) with
    | none => rw [ho] at he; cases he
    | some y =>
      rw [ho] at he
      simp only at he
      obtain ⟨h2, h3, _⟩ := okD_one h h1 ho
      have hb := block_write h h1 ho hk
      have ih := block_writes bl (n + 1) y x h2 (fun a ha' => by rw [h3]; exact ha a (List.mem_cons_of_mem _ (by simpa using ha'))) (by simpa using he) k (by rw [h3]; exact hk)
      rw [ih, hb]
      simp only [List.length_cons]
      by_cases hkn : k = n
      · subst hkn
        rw [if_neg (by omega), if_pos rfl, if_pos (by omega), Nat.sub_self]
        rfl
      · rw [if_neg (show ¬ (k : Int) = (n : Int) by omega)]
        by_cases hr : n + 1 ≤ k ∧ k < n + 1 + bl.length
        · rw [if_pos hr, if_pos (by omega), show k - n = (k - (n + 1)) + 1 by omega]
          rfl
        · rw [if_neg hr, if_neg (by omega)]
/-- What the blocks have behind the acts of a commit. -/
theorem acts_block {d x : Dk} {g : Nat} {l : List UInt8} (hok : okD d = true) (hm : 34 < mny d) (hg : g ≠ 0) (hl : l.length ≤ 2048) (h : onesD d (actsF g l) = some x) :
    okD x = true ∧ mny x = mny d ∧ x.2.1 = [] ∧ ∀ k, k < mny d → blk x.1 k = if k = g % 2 then (blockS g (l.length : Nat)).1 else if 2 + g % 2 * 16 ≤ k ∧ k < 2 + g % 2 * 16 + (wholeB l).length then (wholeB l).getD (k - (2 + g % 2 * 16)) [] else blockD d k := by
  obtain ⟨o1, o2⟩ := okD_ones' hok (actsF_ok hm hg hl) h
  have e : actsF g l = [(true, 0, [])] ++ (wActs ((2 + g % 2 * 16 : Nat) : Int) (wholeB l) ++ ([(true, 0, [])] ++ ([(false, ((g % 2 : Nat) : Int), (blockS g (l.length : Nat)).1)] ++ [(true, 0, [])]))) := rfl
  rw [e, onesD_append6, onesD_one] at h
  obtain ⟨x1, a1, h⟩ := Option.bind_eq_some_iff.1 h
  rw [onesD_append6] at h
  obtain ⟨x2, a2, h⟩ := Option.bind_eq_some_iff.1 h
  rw [onesD_append6, onesD_one] at h
  obtain ⟨x3, a3, h⟩ := Option.bind_eq_some_iff.1 h
  rw [onesD_append6, onesD_one] at h
  obtain ⟨x4, a4, a5⟩ := Option.bind_eq_some_iff.1 h
  rw [onesD_one] at a5
  obtain ⟨k1, m1, _⟩ := okD_one hok (sync_act _) a1
  have hda : ∀ a ∈ wActs ((2 + g % 2 * 16 : Nat) : Int) (wholeB l), actE (mny x1) a = 0 := by rw [m1]; exact dirs_act hm hl
  obtain ⟨k2, m2⟩ := okD_ones' k1 hda a2
  obtain ⟨k3, m3, _⟩ := okD_one k2 (sync_act _) a3
  have hsa : actE (mny x3) (false, ((g % 2 : Nat) : Int), (blockS g (l.length : Nat)).1) = 0 := super_act (by omega) hg hl
  obtain ⟨k4, m4, _⟩ := okD_one k3 hsa a4
  refine ⟨o1, o2, ?_, fun k hk => ?_⟩
  · have := block_sync (n := 0) k4 (sync_act _) rfl a5 (by omega)
    exact this.2
  · have b5 := block_sync (n := k) k4 (sync_act _) rfl a5 (by omega)
    have b4 := block_write (n := k) k3 hsa a4 (by omega)
    have b3 := (block_sync (n := k) k2 (sync_act _) rfl a3 (by omega)).1
    have b2 := block_writes (wholeB l) (2 + g % 2 * 16) x1 x2 k1 hda a2 k (by omega)
    have b1 := (block_sync (n := k) hok (sync_act _) rfl a1 hk).1
    have e5 : blockD x k = blk x.1 k := by rw [blockD_ok o1 (by omega), b5.2]; rfl
    rw [← e5, b5.1, b4, b3, b2, b1]
    by_cases hk2 : k = g % 2
    · rw [if_pos (by omega), if_pos hk2]
    · rw [if_neg (by omega), if_neg hk2]
theorem blk_get {data : List UInt8} {n j : Nat} (h : 128 * n + j < data.length) (hj : j < 128) : (blk data n)[j]? = data[128 * n + j]? := by
  unfold blk
  rw [List.getElem?_take]
  rw [if_pos hj, List.getElem?_drop]
theorem genB_whole {x : Dk} {g : Nat} {l : List UInt8} (hlen : x.1.length = 128 * mny x) (hm : 34 < mny x) (hl : l.length ≤ 2048) (h : ∀ j, j < (wholeB l).length → blk x.1 (2 + g % 2 * 16 + j) = (wholeB l).getD j []) : genB x g l.length = l := by
  unfold genB
  apply List.ext_getElem?
  intro i
  rw [List.getElem?_take]
  by_cases hi : i < l.length
  · rw [if_pos hi, List.getElem?_drop]
    have hj : i / 128 < (wholeB l).length := by rw [wholeB_len]; omega
    have hb := h (i / 128) hj
    have e1 : 128 * (2 + g % 2 * 16) + i = 128 * (2 + g % 2 * 16 + i / 128) + i % 128 := by omega
    rw [e1, ← blk_get (by omega) (by omega), hb]
    rw [List.getD, List.getElem?_eq_getElem hj, Option.getD_some, wholeB_get]
    unfold padB
    rw [List.getElem?_append_left (by rw [List.length_take, List.length_drop]; omega), List.getElem?_take, if_pos (by omega), List.getElem?_drop]
    congr 1
    omega
  · rw [if_neg hi, List.getElem?_eq_none (by omega)]
theorem genB_same {x d : Dk} {g sz : Nat} (hx : x.1.length = d.1.length) (hlen : d.1.length = 128 * mny d) (hm : 34 < mny d) (hs : sz ≤ 2048) (h : ∀ k, k < 34 → blk x.1 k = blk d.1 k) : genB x g sz = genB d g sz := by
  unfold genB
  apply List.ext_getElem?
  intro i
  rw [List.getElem?_take, List.getElem?_take]
  by_cases hi : i < sz
  · rw [if_pos hi, if_pos hi, List.getElem?_drop, List.getElem?_drop]
    have e1 : 128 * (2 + g % 2 * 16) + i = 128 * (2 + g % 2 * 16 + i / 128) + i % 128 := by omega
    rw [e1, ← blk_get (by omega) (by omega), ← blk_get (by omega) (by omega), h _ (by omega)]
  · rw [if_neg hi, if_neg hi]
theorem lastS_same {x d : Dk} {n : Nat} (h : blk x.1 n = blk d.1 n) : lastS x n = lastS d n := by unfold lastS; rw [h]
theorem best_of2 {d : Dk} {gen size : Nat} (h1 : (lastS d (gen % 2)).1 ≤ gen) (h2 : lastS d ((gen + 1) % 2) = (gen + 1, size)) : bestS d = (gen + 1, size) := by
  unfold bestS laterS
  rcases (by omega : gen % 2 = 0 ∧ (gen + 1) % 2 = 1 ∨ gen % 2 = 1 ∧ (gen + 1) % 2 = 0) with ⟨e1, e2⟩ | ⟨e1, e2⟩
  · rw [e1] at h1
    rw [e2] at h2
    rw [h2]
    by_cases hg : 0 < (lastS d 0).1
    · rw [if_pos (show ((0, 0) : Nat × Nat).1 < (lastS d 0).1 from hg), if_pos (show (lastS d 0).1 < gen + 1 by omega)]
    · rw [if_neg (show ¬ ((0, 0) : Nat × Nat).1 < (lastS d 0).1 from hg), if_pos (show 0 < gen + 1 by omega)]
  · rw [e1] at h1
    rw [e2] at h2
    rw [h2, if_pos (show ((0, 0) : Nat × Nat).1 < gen + 1 by show 0 < gen + 1; omega), if_neg (show ¬ gen + 1 < (lastS d 1).1 by omega)]
/-- Writes that wait from the first block on leave the blocks below. -/
theorem last_none {l : List Pu} (h : ∀ p ∈ l, 34 ≤ p.1) {k : Nat} (hk : k < 34) : lastP (k : Int) l = none := by
  induction l with
  | nil => rfl
  | cons p l ih =>
    unfold lastP
    rw [ih (fun q hq => h q (List.mem_cons_of_mem _ hq))]
    have := h p (List.mem_cons_self ..)
    simp only
    rw [if_neg (by omega)]
theorem block_low {d : Dk} (hok : okD d = true) (hm : 34 < mny d) (hw : ∀ p ∈ d.2.1, 34 ≤ p.1) {k : Nat} (hk : k < 34) : blockD d k = blk d.1 k := by
  rw [blockD_ok hok (by omega), last_none hw hk]; rfl
/-- Behind a commit files may be. -/
theorem commit_ok {d x : Dk} {g : Nat} {D : List Fl} (hok : okD d = true) (hm : 34 < mny d) (hw : ∀ p ∈ d.2.1, 34 ≤ p.1) (hc : chkF D (mny d) = 0) (hg : g + 1 < 4294967296) (hl : (lastS d (g % 2)).1 ≤ g) (h : onesD d (actsF (g + 1) (bytF D)) = some x) : okFs (x, g + 1, D, D) := by
  have hb : (bytF D).length ≤ 2048 := (chkF_may hc).2.2.2.2
  obtain ⟨o1, o2, o3, o4⟩ := acts_block hok hm (by omega) hb h
  have hS : (blockS (g + 1) ((bytF D).length : Nat)).2 = 0 := by rw [blockS_of (by omega) (by omega) (by omega)]
  have q1 : lastS x (g % 2) = lastS d (g % 2) := by
    apply lastS_same
    rw [o4 _ (by omega), if_neg (by omega), if_neg (by omega), block_low hok hm hw (by omega)]
  have q2 : lastS x ((g + 1) % 2) = (g + 1, (bytF D).length) := by
    unfold lastS
    rw [o4 _ (by omega), if_pos rfl, ofS_block hg hS]
    rw [if_pos rfl, Int.toNat_natCast]
  have hL : latestS x = (g + 1, (bytF D).length, 0) := latestS_of o1 (by omega) (by omega) (best_of2 (by rw [q1]; exact hl) q2)
  have hG : genB x (g + 1) (bytF D).length = bytF D := genB_whole (okD_len o1) (by omega) hb (fun j hj => by
    have hj' : j ≤ 15 := by rw [wholeB_len] at hj; omega
    rw [o4 _ (by omega), if_neg (by omega), if_pos (by omega), show 2 + (g + 1) % 2 * 16 + j - (2 + (g + 1) % 2 * 16) = j by omega])
  have hR := read_back hc
  refine ⟨by rw [hL], by rw [hL], (fun p hp => by have hp : p ∈ x.2.1 := hp; rw [o3] at hp; cases hp), ?_, ?_, ?_⟩
  · show readE (genB x (g + 1) (latestS x).2.1) (mny x) = 0
    rw [hL, hG, o2]; exact hR.1
  · show readL (genB x (g + 1) (latestS x).2.1) (mny x) = D
    rw [hL, hG, o2]; exact hR.2
  · show chkF D (mny x) = 0
    rw [o2]; exact hc
/-- Files on a disk with the same data below the first block, and a directory that may be. -/
theorem ok_same {f : Fsd} {d : Dk} {D : List Fl} (h : okFs f) (hok : okD d = true) (hlen : d.1.length = f.1.1.length) (hb : ∀ k, k < 34 → blk d.1 k = blk f.1.1 k) (hw : ∀ p ∈ d.2.1, 34 ≤ p.1) (hD : chkF D (mny f.1) = 0) : okFs (d, f.2.1, D, f.2.2.2) := by
  obtain ⟨h1, h2, h3, h4⟩ := okFs_disk h
  obtain ⟨s1, s2⟩ := okFs_size h
  have hm : mny d = mny f.1 := by unfold mny; rw [hlen]
  have hL : latestS d = latestS f.1 := by
    have e1 : bestS d = bestS f.1 := by unfold bestS; rw [lastS_same (hb 0 (by omega)), lastS_same (hb 1 (by omega))]
    unfold latestS
    rw [e1, hm, chk_ok hok, chk_ok h1]
  have hG : genB d f.2.1 (latestS f.1).2.1 = genB f.1 f.2.1 (latestS f.1).2.1 := genB_same hlen (okD_len h1) h2 s1 hb
  obtain ⟨c1, c2, c3, c4, c5, c6⟩ := h
  refine ⟨by show (latestS d).2.2 = 0; rw [hL]; exact c1, by show (latestS d).1 = _; rw [hL]; exact c2, hw, ?_, ?_, ?_⟩
  · show readE (genB d f.2.1 (latestS d).2.1) (mny d) = 0
    rw [hL, hG, hm]; exact c4
  · show readL (genB d f.2.1 (latestS d).2.1) (mny d) = f.2.2.2
    rw [hL, hG, hm]; exact c5
  · show chkF D (mny d) = 0
    rw [hm]; exact hD
theorem kept_chk {f : Fsd} (h : okFs f) : chkF f.2.2.2 (mny f.1) = 0 := by
  rw [← h.2.2.2.2.1]
  exact (read_only h.2.2.2.1).1
theorem ofS_zero : ofS (List.replicate 128 0) = (0, 0, 8) := by kernel_rfl
/-- Files on a new disk. -/
theorem format_ok {n : Int} (h1 : 34 < n) (h2 : n ≤ 4096) : ∃ x : List UInt8, formatFs n = (((x, [], []), 1, [], []), 0) ∧ okFs ((x, [], []), 1, [], []) ∧ mny (x, [], []) = n.toNat := by
  have hn : (newD n).2 = 0 := by unfold newD; rw [if_neg (by omega)]
  obtain ⟨a, b, c, d, e⟩ := newD_ok hn h1
  have hs := format_spec hn h1
  have hno : onesD (newD n).1 (actsF 1 [0]) ≠ none := by
    rw [e]
    simp [actsF, wActs, wholeB, onesD, oneD]
  cases ho : onesD (newD n).1 (actsF 1 [0]) with
  | none => exact absurd ho hno
  | some x =>
    rw [ho] at hs
    have hs : commitW (((newD n).1, 0, [], []), 0, []) = ((x, 1, [], []), 0, [0]) := hs
    have hz : lastS (newD n).1 (0 % 2) = (0, 0) := by
      have hb : blk (newD n).1.1 0 = List.replicate 128 0 := by
        rw [e]
        unfold blk
        rw [List.drop_zero, List.take_replicate, Nat.min_eq_left (by omega)]
      unfold lastS
      rw [hb, ofS_zero]
      rfl
    have hx := commit_ok (D := []) (g := 0) a b (by rw [e]; intro p hp; cases hp) (by exact chk_nil b (by omega)) (by decide) (by rw [hz]; exact Nat.le_refl 0) (by rw [byt_nil]; exact ho)
    obtain ⟨o1, o2, o3, -⟩ := acts_block a b (by decide : (1 : Nat) ≠ 0) (by simp : ([0] : List UInt8).length ≤ 2048) ho
    have hcl : okD (x.1, [], []) = true := by
      obtain ⟨p1, p2, p3, p4, p5, p6, p7⟩ := (okD_iff x).1 o1
      exact (okD_iff _).2 ⟨p1, p2, p3, by simp, by simp, by simp, by simp⟩
    refine ⟨x.1, ?_, ?_, ?_⟩
    · unfold formatFs
      rw [if_neg (by rw [hn]; decide), if_neg (by omega), hs]
      have e2 : clearD x = ((x.1, [], []), 0) := by unfold clearD; rw [if_neg (by rw [chk_ok o1]; decide), o3]
      unfold thenW
      rw [if_pos rfl]
      unfold clearW diskW endW
      simp only [e2]
      rfl
    · have := ok_same (f := (x, 0 + 1, [], [])) (d := (x.1, [], [])) (D := []) hx hcl rfl (fun k _ => rfl) (by intro p hp; cases hp) hx.2.2.2.2.2
      exact this
    · rw [← c, ← o2]; rfl

end Go.Proofs.YtnigdbhjaoeblaaGreat
namespace Go.Proofs.YtnigdbhjaoeblaaGreat
open Go.RowKit
set_option linter.unusedVariables false
set_option linter.unusedSimpArgs false

theorem turn_of {f : Fsd} {l : List Fl} (h : fsE f = 0) : turnFs f l 0 = ((f.1, f.2.1, l, f.2.2.2), 0) := by
  unfold turnFs
  rw [if_neg (by rw [h]; decide), if_neg (by decide)]
/-- A directory is turned: files may be. -/
theorem turned_ok {f : Fsd} {l : List Fl} (h : okFs f) (hl : chkF l (mny f.1) = 0) : okFs (f.1, f.2.1, l, f.2.2.2) :=
  ok_same h (okFs_disk h).1 rfl (fun _ _ => rfl) h.2.2.1 hl

/-! ### the example -/
def ex0 (x : List UInt8) : Fsd := ((x, [], []), 1, [], [])
def Exm (x : List UInt8) : Prop := okFs (ex0 x) ∧ mny ((x, [], []) : Dk) = 64
theorem ex0_is : ∃ x, formatFs 64 = (ex0 x, 0) ∧ Exm x := by
  obtain ⟨x, h1, h2, h3⟩ := format_ok (n := 64) (by decide) (by decide)
  exact ⟨x, h1, h2, h3⟩
section
variable {x : List UInt8}
theorem ex0_e (h : Exm x) : fsE (ex0 x) = 0 := fsE_of h.1
theorem ex0_m (h : Exm x) : mnyFs (ex0 x) = 64 := by rw [mnyFs_ok (okFs_disk h.1).1]; show ((mny ((x, [], []) : Dk) : Nat) : Int) = 64; rw [h.2]; rfl
end

end Go.Proofs.YtnigdbhjaoeblaaGreat
namespace Go.Proofs.YtnigdbhjaoeblaaGreat
open Go.RowKit
set_option linter.unusedVariables false
set_option linter.unusedSimpArgs false

def contF (f : Fsd) (s : List UInt8) : List UInt8 := if sizeE f s ≠ 0 then [] else (bloL f s).flatMap fun n => nowD f.1 n.toNat
theorem okFs_may {f : Fsd} (h : okFs f) : mayF f.2.2.1 (mny f.1) := (chkF_may h.2.2.2.2.2).2
theorem ext_chk {l m : List Ex} {b : Int} (h : extP m b) (hs : l.Sublist m) : chkX l = 0 := (extP_sub hs h).1
theorem mem_sub {fs : List Fl} {g : Fl} (h : g ∈ fs) : g.2.Sublist (usedF fs) := by
  have h1 : [g].Sublist fs := List.singleton_sublist.2 h
  have := used_sub h1
  simpa [usedF] using this
/-- A file of a directory that may be. -/
theorem file_in {f : Fsd} (h : okFs f) {g : Fl} (hg : g ∈ f.2.2.1) : thereE f.2.2.1 g.1 = 0 ∧ getF f.2.2.1 g.1 = g.2 ∧ bloE f g.1 = 0 ∧ bloL f g.1 = blocksX g.2 ∧ sizeE f g.1 = 0 := by
  have hm := okFs_may h
  have h1 : isF f.2.2.1 g.1 = true := (isF_iff _ _).2 ⟨g.2, hg⟩
  have h2 : nameF g.1 = true := by
    have := hm.2.1.1 g hg
    unfold oneF at this
    simp only [Bool.and_eq_true] at this
    exact this.1.1
  have h3 := (thereE_in h.2.2.2.2.2 h2 h1).1
  have h4 : getF f.2.2.1 g.1 = g.2 := getF_mem hm.2.1.2 hg
  have h5 : chkX g.2 = 0 := ext_chk hm.2.2.1 (mem_sub hg)
  have h6 : bloE f g.1 = 0 := by unfold bloE; rw [if_neg (by rw [h3]; decide), h4, h5]
  have h7 : bloL f g.1 = blocksX g.2 := by unfold bloL blocksR; rw [if_neg (by rw [h3]; decide), h4, if_pos h5]
  refine ⟨h3, h4, h6, h7, ?_⟩
  unfold sizeE
  rw [if_neg (by rw [fsE_of h]; decide), h6]
theorem size_there {f : Fsd} {s : List UInt8} (h : sizeE f s = 0) : okFs f ∧ ∃ l, (s, l) ∈ f.2.2.1 := by
  unfold sizeE at h
  by_cases h0 : fsE f = 0
  · rw [if_neg (by rw [h0]; decide)] at h
    have hok := fsE_ok h0
    unfold bloE at h
    by_cases h1 : thereE f.2.2.1 s = 0
    · exact ⟨hok, (isF_iff _ _).1 (thereE_okF h1).2.2⟩
    · rw [if_pos h1] at h; exact absurd h h1
  · rw [if_pos h0] at h; exact absurd h h0
theorem blocksX_mem {l : List Ex} {n : Int} (h : n ∈ blocksX l) : ∃ x ∈ l, x.1 ≤ n ∧ n < x.1 + x.2 := by
  obtain ⟨x, hx, hn⟩ := List.mem_flatMap.1 h
  refine ⟨x, hx, ?_⟩
  unfold blkX at hn
  obtain ⟨i, hi, rfl⟩ := List.mem_map.1 hn
  have := List.mem_range.1 hi
  omega
/-- Blocks of files are on the disk, from the first one on. -/
theorem blo_rng {f : Fsd} (h : okFs f) {g : Fl} (hg : g ∈ f.2.2.1) : ∀ n ∈ blocksX g.2, 34 ≤ n ∧ n < mny f.1 := by
  intro n hn
  obtain ⟨x, hx, h1, h2⟩ := blocksX_mem hn
  have := extP_all (okFs_may h).2.2.1 x ((mem_sub hg).subset hx)
  omega
theorem blo_rng2 {f : Fsd} {s : List UInt8} (h : sizeE f s = 0) : ∀ n ∈ bloL f s, 34 ≤ n ∧ n < mny f.1 := by
  obtain ⟨h0, l, hl⟩ := size_there h
  rw [(file_in h0 hl).2.2.2.1]
  exact blo_rng h0 hl
theorem size_ok {f : Fsd} {s : List UInt8} (h : sizeE f s = 0) : okFs f ∧ bloE f s = 0 ∧ sizeN f s = (bloL f s).length := by
  obtain ⟨h0, l, hl⟩ := size_there h
  refine ⟨h0, (file_in h0 hl).2.2.1, ?_⟩
  unfold sizeN
  rw [if_neg (by rw [fsE_of h0]; decide)]
theorem get_ok {f : Fsd} {s : List UInt8} (h : sizeE f s = 0) {i : Nat} (hi : i < (bloL f s).length) : atE f s i = 0 ∧ atN f s i = (bloL f s)[i] ∧ getE f s i = 0 ∧ getL f s i = nowD f.1 ((bloL f s)[i]).toNat := by
  obtain ⟨h0, h1, _⟩ := size_ok h
  have hr := blo_rng2 h _ (List.getElem_mem hi)
  have a1 : atE f s i = 0 := by unfold atE; rw [if_neg (by rw [h1]; decide), if_neg (by omega)]
  have a2 : atN f s i = (bloL f s)[i] := by unfold atN; rw [if_neg (by rw [a1]; decide)]; simp [List.getD, List.getElem?_eq_getElem hi]
  have a3 : readD f.1 ((bloL f s)[i]) = (nowD f.1 ((bloL f s)[i]).toNat, 0) := by
    unfold readD
    rw [if_neg (by rw [chk_ok (okFs_disk h0).1]; decide), if_neg (by omega)]
  refine ⟨a1, a2, ?_, ?_⟩
  · unfold getE; rw [if_neg (by rw [fsE_of h0]; decide), if_neg (by rw [a1]; decide), a2, a3]
  · unfold getL; rw [if_neg (by rw [fsE_of h0]; decide), if_neg (by rw [a1]; decide), a2, a3]
theorem bloL_len {f : Fsd} {s : List UInt8} (h : sizeE f s = 0) : (bloL f s).length ≤ 20000000 := by
  obtain ⟨h0, l, hl⟩ := size_there h
  rw [(file_in h0 hl).2.2.2.1]
  have h1 : l.length ≤ 4096 ∧ ∀ x ∈ l, 0 ≤ x.1 ∧ 1 ≤ x.2 ∧ x.1 + x.2 ≤ 4096 := chkX_rng (ext_chk (okFs_may h0).2.2.1 (mem_sub hl))
  have : ∀ (l : List Ex), (∀ x ∈ l, 0 ≤ x.1 ∧ 1 ≤ x.2 ∧ x.1 + x.2 ≤ 4096) → (blocksX l).length ≤ 4096 * l.length := by
    intro l
    induction l with
    | nil => intro _; simp [blocksX]
    | cons x l ih =>
      intro hx
      have a := ih (fun y hy => hx y (by simp [hy]))
      have b := hx x (by simp)
      unfold blocksX at *
      rw [List.flatMap_cons, List.length_append, List.length_cons]
      have c : (blkX x x.2.toNat).length = x.2.toNat := by simp [blkX]
      omega
  have := this l h1.2
  have e : (s, l).2 = l := rfl
  rw [e]
  omega
theorem now_len {d : Dk} {n : Nat} (h : okD d = true) (hn : n < mny d) : (nowD d n).length = 128 := by
  unfold nowD
  have h1 := (okD_iff d).1 h
  cases e : lastP (n : Int) d.2.1 with
  | some b =>
    have : ∀ (l : List Pu), (∀ p ∈ l, putE (mny d) p = 0) → ∀ b, lastP (n : Int) l = some b → b.length = 128 := by
      intro l
      induction l with
      | nil => intro _ b hb; cases hb
      | cons p l ih =>
        intro hp b hb
        unfold lastP at hb
        cases e2 : lastP (n : Int) l with
        | some b' => rw [e2] at hb; cases hb; exact ih (fun q hq => hp q (List.mem_cons_of_mem _ hq)) _ e2
        | none =>
          rw [e2] at hb
          simp only at hb
          split at hb
          · cases hb; exact (putE_ok (hp p (List.mem_cons_self ..))).2.2
          · cases hb
    exact this _ h1.2.2.2.2.2.1 b e
  | none =>
    show (blk d.1 n).length = 128
    unfold blk
    rw [List.length_take, List.length_drop, okD_len h]
    omega
/-- The contents are the same where the blocks are. -/
theorem cont_same {f g : Fsd} {s : List UInt8} (h1 : sizeE f s = 0) (h2 : sizeE g s = 0) (hl : bloL g s = bloL f s) (hb : ∀ n ∈ bloL f s, nowD g.1 n.toNat = nowD f.1 n.toNat) : contF f s = contF g s := by
  unfold contF
  rw [if_neg (by rw [h1]; decide), if_neg (by rw [h2]; decide), hl]
  have : ∀ (l : List Int), (∀ n ∈ l, nowD g.1 n.toNat = nowD f.1 n.toNat) → (l.flatMap fun n => nowD f.1 n.toNat) = l.flatMap fun n => nowD g.1 n.toNat := by
    intro l
    induction l with
    | nil => intro _; rfl
    | cons a l ih => intro h; rw [List.flatMap_cons, List.flatMap_cons, h a (List.mem_cons_self ..), ih (fun n hn => h n (List.mem_cons_of_mem _ hn))]
  exact this _ hb
theorem blo_dir {f g : Fsd} (h : g.2.2.1 = f.2.2.1) (s : List UInt8) : bloL g s = bloL f s ∧ bloE g s = bloE f s := by
  unfold bloL bloE
  rw [h]
  exact ⟨rfl, rfl⟩
theorem size_dir {f g : Fsd} (h : g.2.2.1 = f.2.2.1) (hf : okFs f) (hg : okFs g) (s : List UInt8) : sizeE g s = sizeE f s := by
  unfold sizeE
  rw [fsE_of hf, fsE_of hg, (blo_dir h s).2]

end Go.Proofs.YtnigdbhjaoeblaaGreat
namespace Go.Proofs.YtnigdbhjaoeblaaGreat
open Go.RowKit
set_option linter.unusedVariables false
set_option linter.unusedSimpArgs false

theorem OwFs.bx {w : World} {base : Nat} {v : Value} {f : Fsd} (h : OwFs w base v f) : ∃ x : FsV, v = x.val ∧ RdX w x f ∧ OwFs w base x.val f := by
  obtain ⟨x, e, hx⟩ := h.form
  exact ⟨x, e, hx, e ▸ h⟩

theorem FsV.ext_val {x y : FsV} (h : x.val = y.val) : x = y := by
  obtain ⟨a1, n1, c1, a2, n2, c2, a3, n3, c3, g, a4, n4, c4, a5, n5, c5⟩ := x
  obtain ⟨b1, m1, d1, b2, m2, d2, b3, m3, d3, g', b4, m4, d4, b5, m5, d5⟩ := y
  injection h with h
  have e0 := congrArg (fun z : Array Value => z[0]!) h
  have e1 := congrArg (fun z : Array Value => z[1]!) h
  have e2 := congrArg (fun z : Array Value => z[2]!) h
  have e3 := congrArg (fun z : Array Value => z[3]!) h
  have e4 := congrArg (fun z : Array Value => z[4]!) h
  have e5 := congrArg (fun z : Array Value => z[5]!) h
  simp at e0 e1 e2 e3 e4 e5
  obtain ⟨rfl, rfl, rfl⟩ := e0
  obtain ⟨rfl, rfl, rfl⟩ := e1
  obtain ⟨rfl, rfl, rfl⟩ := e2
  have e3 : g = g' := by omega
  subst e3
  obtain ⟨rfl, rfl, rfl⟩ := e4
  obtain ⟨rfl, rfl, rfl⟩ := e5
  rfl

theorem FsB.of {w : World} {q : Nat} {x : FsV} (h : FsAt w q x) : FsB w q := ⟨_, _, _, _, _, _, h⟩
/-- A variable is written over. -/
theorem OwFs.assign {w w0 : World} {base q : Nat} {y : FsV} {f : Fsd} (h : OwFs w base y.val f) (hq : FsB w q) (hb : Below w0.heap.size w0 w) (hq0 : w0.heap.size ≤ q) :
    OwFs (set6 w q y) base y.val f ∧ Below w0.heap.size w0 (set6 w q y) ∧ FsAt (set6 w q y) q y ∧ RdX (set6 w q y) y f ∧ w.grownBy (set6 w q y) (some q) := by
  obtain ⟨h1, h2, h3⟩ := h.stored hq hb hq0
  refine ⟨h1, h2, h3, ?_, (hq.put y).2⟩
  obtain ⟨x', ex', hx'⟩ := h1.form
  have e : x' = y := FsV.ext_val ex'.symm
  subst e
  exact hx'

end Go.Proofs.YtnigdbhjaoeblaaGreat
namespace Go.Proofs.YtnigdbhjaoeblaaGreat
open Go.RowKit
set_option linter.unusedVariables false
set_option linter.unusedSimpArgs false

/-- All files but one are in both, with the same in them. -/
def Like (f g : Fsd) (but : List UInt8) : Prop := ∀ x ∈ f.2.2.1, x.1 ≠ but → sizeE f x.1 = 0 ∧ sizeE g x.1 = 0 ∧ contF f x.1 = contF g x.1

end Go.Proofs.YtnigdbhjaoeblaaGreat
namespace Go.Proofs.YtnigdbhjaoeblaaGreat
open Go.RowKit
set_option linter.unusedVariables false
set_option linter.unusedSimpArgs false

/-- Two states with the same directory and the same blocks from the first one on are alike. -/
theorem like_of {f g : Fsd} {but : List UInt8} (hf : okFs f) (hg : okFs g) (hd : g.2.2.1 = f.2.2.1) (hb : ∀ k : Nat, 34 ≤ k → k < mny f.1 → nowD g.1 k = nowD f.1 k) : Like f g but := by
  intro x hx _
  have h1 := (file_in hf hx).2.2.2.2
  have h2 : sizeE g x.1 = 0 := by rw [size_dir hd hf hg]; exact h1
  refine ⟨h1, h2, cont_same h1 h2 (blo_dir hd x.1).1 ?_⟩
  intro n hn
  have := blo_rng2 h1 n hn
  exact hb _ (by omega) (by omega)
theorem last_le {f : Fsd} (h : okFs f) : (lastS f.1 (f.2.1 % 2)).1 ≤ f.2.1 := by
  obtain ⟨_, _, hg, hL⟩ := okFs_disk h
  obtain ⟨_, _, _, hb⟩ := latestS_ok hL
  rw [bestS_slot hb hg]
  exact Nat.le_refl _
theorem commit_all {f : Fsd} (hok : okFs f) (h : (commitFs f).2 = 0) : ∃ x, commitFs f = ((x, f.2.1 + 1, f.2.2.1, f.2.2.1), 0) ∧ okFs (x, f.2.1 + 1, f.2.2.1, f.2.2.1) ∧ x.2.1 = [] ∧ mny x = mny f.1 ∧ f.2.1 + 1 < 4294967296 ∧ Like f (x, f.2.1 + 1, f.2.2.1, f.2.2.1) [] := by
  rw [commit_is] at h ⊢
  unfold comFs at h ⊢
  rw [if_neg (by rw [fsE_of hok]; decide)] at h ⊢
  obtain ⟨h1, h2, h3, h4⟩ := okFs_disk hok
  have hlt := (okFs_size hok).2
  by_cases hg : f.2.1 = 4294967295
  · rw [if_pos hg] at h; cases h
  · rw [if_neg hg] at h ⊢
    cases ho : onesD f.1 (actsF (f.2.1 + 1) (bytF f.2.2.1)) with
    | none => rw [ho] at h; cases h
    | some x =>
      have hc := hok.2.2.2.2.2
      have hx := commit_ok h1 h2 hok.2.2.1 hc (by omega) (last_le hok) ho
      have hb : (bytF f.2.2.1).length ≤ 2048 := (chkF_may hc).2.2.2.2
      obtain ⟨o1, o2, o3, o4⟩ := acts_block h1 h2 (by omega) hb ho
      refine ⟨x, rfl, hx, o3, o2, by omega, like_of hok hx rfl (fun k hk hk2 => ?_)⟩
      show nowD x k = nowD f.1 k
      have e1 : nowD x k = blk x.1 k := by unfold nowD; rw [o3]; rfl
      rw [e1, o4 k hk2, if_neg (by omega), if_neg (by rw [wholeB_len]; omega), blockD_now h1 hk2]
/-! ### how many blocks can be given -/
end Go.Proofs.YtnigdbhjaoeblaaGreat
