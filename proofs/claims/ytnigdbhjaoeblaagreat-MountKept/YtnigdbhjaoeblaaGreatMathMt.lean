/-
  Plain mathematics of a disk that is opened again.
-/
import Derived.Test.YtnigdbhjaoeblaaGreatMathFs7
namespace Go.Proofs.YtnigdbhjaoeblaaGreat
open Go.RowKit
set_option linter.unusedVariables false
set_option linter.unusedSimpArgs false

def openFs (d : Dk) : Fsd × Int :=
  if (latestS d).2.2 ≠ 0 then (fz, (latestS d).2.2)
  else if d.2.1.any (fun p => decide (p.1 < 34)) = true then (fz, 70)
  else if readE (genB d (latestS d).1 (latestS d).2.1) (mny d) ≠ 0 then (fz, 70)
  else (((d.1, d.2.1, []), (latestS d).1, readL (genB d (latestS d).1 (latestS d).2.1) (mny d), readL (genB d (latestS d).1 (latestS d).2.1) (mny d)), 0)
def tornM (f g : Fsd) (many : Int) (K : List Bool) : Dk × Int :=
  if fsE f ≠ 0 ∨ fsE g ≠ 0 ∨ f.1.2.2 ≠ [] then (dz, 8)
  else if (doD f.1 g.1.2.2 (g.1.2.2.length : Nat)).2 ≠ 0 ∨ ¬ ((doD f.1 g.1.2.2 (g.1.2.2.length : Nat)).1.1 = g.1.1 ∧ (doD f.1 g.1.2.2 (g.1.2.2.length : Nat)).1.2.1 = g.1.2.1) then (dz, 8)
  else if many < 0 ∨ (g.1.2.2.length : Int) < many then (dz, 2)
  else crashD (doD f.1 g.1.2.2 many).1 K
abbrev downD (d : Dk) (K : List Bool) : Dk := (setBs d.1 (kept d.2.1 K), [], [])

theorem nil_wait : ∀ p ∈ ([] : List Pu), 34 ≤ p.1 := by intro p hp; cases hp
theorem open_ok {f : Fsd} (h : okFs f) : openFs f.1 = (((f.1.1, f.1.2.1, []), f.2.1, f.2.2.2, f.2.2.2), 0) := by
  have h3 := (okFs_disk h).2.2.2
  obtain ⟨c1, c2, c3, c4, c5, c6⟩ := h
  unfold openFs
  have hn : ¬ f.1.2.1.any (fun p => decide (p.1 < 34)) = true := by
    rw [List.any_eq_true]
    rintro ⟨p, hp, h4⟩
    have := c3 p hp
    simp at h4
    omega
  rw [if_neg (by rw [c1]; decide), if_neg hn, c2, if_neg (by rw [c4]; decide), c5]
theorem open_nil {s : List UInt8} {g : Nat} {D K : List Fl} (h : okFs ((s, [], []), g, D, K)) : openFs (s, [], []) = (((s, [], []), g, K, K), 0) := by
  have h2 := open_ok h
  dsimp only at h2
  exact h2
theorem lastP_no {l : List Pu} {k : Int} (h : ∀ p ∈ l, p.1 ≠ k) : lastP k l = none := by
  induction l with
  | nil => rfl
  | cons p l ih =>
    unfold lastP
    rw [ih (fun q hq => h q (List.mem_cons_of_mem _ hq))]
    simp only
    rw [if_neg (h p (List.mem_cons_self ..))]
theorem put_in {d : Dk} (h : okD d = true) : ∀ p ∈ d.2.1, 0 ≤ p.1 ∧ 128 * p.1.toNat + 128 ≤ d.1.length ∧ p.2.length = 128 := fun p hp => by
  obtain ⟨hf, _, _⟩ := Fine.of_ok h
  have := putE_ok (hf.2.2.2 p hp)
  have := hf.1
  omega
theorem blk_crash {d : Dk} (K : List Bool) (h : okD d = true) (n : Nat) : blk (setBs d.1 (kept d.2.1 K)) n = (lastP n (kept d.2.1 K)).getD (blk d.1 n) :=
  blk_setBs d.1 n _ d.1 rfl (fun p hp => put_in h p (kept_mem _ _ _ hp))
/-- Blocks that nothing waits for, and that no act writes, stay. -/
theorem off_crash {S : Int → Prop} {d : Dk} (K : List Bool) (h : okD d = true) (hw : ∀ p ∈ d.2.1, ¬ S p.1) {k : Nat} (hk : S k) : blk (setBs d.1 (kept d.2.1 K)) k = blk d.1 k := by
  rw [blk_crash K h, lastP_no (fun p hp e => hw p (kept_mem _ _ _ hp) (e ▸ hk))]
  rfl
theorem off_one {S : Int → Prop} {d x : Dk} {a : Ac} (h : okD d = true) (hw : ∀ p ∈ d.2.1, ¬ S p.1) (ha : a.1 = false → ¬ S a.2.1) (he : oneD d a = some x) : (∀ p ∈ x.2.1, ¬ S p.1) ∧ ∀ k : Nat, S k → blk x.1 k = blk d.1 k := by
  unfold oneD at he
  split at he
  · cases he
  · split at he
    · cases he
      refine ⟨(fun p hp => by cases hp), fun k hk => ?_⟩
      show blk (setBs d.1 d.2.1) k = _
      rw [blk_setBs d.1 k _ d.1 rfl (put_in h), lastP_no (fun p hp e => hw p hp (e ▸ hk))]
      rfl
    · rename_i h1 h2
      cases he
      refine ⟨fun p hp => ?_, fun k hk => rfl⟩
      rcases List.mem_append.1 hp with hp | hp
      · exact hw p hp
      · rw [List.mem_singleton.1 hp]; exact ha (by simpa using h2)
theorem off_ones {S : Int → Prop} : ∀ (l : List Ac) (d x : Dk), okD d = true → (∀ a ∈ l, actE (mny d) a = 0) → (∀ p ∈ d.2.1, ¬ S p.1) → (∀ a ∈ l, a.1 = false → ¬ S a.2.1) → onesD d l = some x → (∀ p ∈ x.2.1, ¬ S p.1) ∧ ∀ k : Nat, S k → blk x.1 k = blk d.1 k
  | [], d, x, _, _, hw, _, he => by cases he; exact ⟨hw, fun _ _ => rfl⟩
  | a :: l, d, x, h, ha, hw, hs, he => by
    have e : onesD d (a :: l) = (match oneD d a with | none => none | some x => onesD x l) := rfl
    rw [e] at he
    cases e1 : oneD d a with
    | none => rw [e1] at he; cases he
    | some y =>
      rw [e1] at he
      obtain ⟨h1, h2, _⟩ := okD_one h (ha a (List.mem_cons_self ..)) e1
      obtain ⟨k1, k2⟩ := off_one h hw (hs a (List.mem_cons_self ..)) e1
      obtain ⟨j1, j2⟩ := off_ones l y x h1 (fun b hb => by rw [h2]; exact ha b (List.mem_cons_of_mem _ hb)) k1 (fun b hb => hs b (List.mem_cons_of_mem _ hb)) he
      exact ⟨j1, fun k hk => (j2 k hk).trans (k2 k hk)⟩
/-- The blocks that tell of a gen: both superblocks, and its directory's. -/
def ofGen (g : Nat) (n : Int) : Prop := (0 ≤ n ∧ n < 2) ∨ (((2 + g % 2 * 16 : Nat) : Int) ≤ n ∧ n < ((2 + g % 2 * 16 + 16 : Nat) : Int))
theorem genB_area {x d : Dk} {g sz : Nat} (hx : x.1.length = d.1.length) (hlen : d.1.length = 128 * mny d) (hm : 34 < mny d) (hs : sz ≤ 2048) (h : ∀ k : Nat, ofGen g k → blk x.1 k = blk d.1 k) : genB x g sz = genB d g sz := by
  unfold genB
  apply List.ext_getElem?
  intro i
  rw [List.getElem?_take, List.getElem?_take]
  by_cases hi : i < sz
  · rw [if_pos hi, if_pos hi, List.getElem?_drop, List.getElem?_drop]
    have e1 : 128 * (2 + g % 2 * 16) + i = 128 * (2 + g % 2 * 16 + i / 128) + i % 128 := by omega
    rw [e1, ← blk_get (by omega) (by omega), ← blk_get (by omega) (by omega), h _ (by unfold ofGen; omega)]
  · rw [if_neg hi, if_neg hi]
theorem ok_area {f : Fsd} {d : Dk} (h : okFs f) (hok : okD d = true) (hlen : d.1.length = f.1.1.length) (hb : ∀ k : Nat, ofGen f.2.1 k → blk d.1 k = blk f.1.1 k) (hw : ∀ p ∈ d.2.1, 34 ≤ p.1) : okFs (d, f.2.1, f.2.2.2, f.2.2.2) := by
  obtain ⟨h1, h2, h3, h4⟩ := okFs_disk h
  obtain ⟨s1, s2⟩ := okFs_size h
  have hm : mny d = mny f.1 := by unfold mny; rw [hlen]
  have hL : latestS d = latestS f.1 := by
    have e1 : bestS d = bestS f.1 := by unfold bestS; rw [lastS_same (hb 0 (by unfold ofGen; omega)), lastS_same (hb 1 (by unfold ofGen; omega))]
    unfold latestS
    rw [e1, hm, chk_ok hok, chk_ok h1]
  have hG : genB d f.2.1 (latestS f.1).2.1 = genB f.1 f.2.1 (latestS f.1).2.1 := genB_area hlen (okD_len h1) h2 s1 hb
  have hK := kept_chk h
  obtain ⟨c1, c2, c3, c4, c5, c6⟩ := h
  refine ⟨by show (latestS d).2.2 = 0; rw [hL]; exact c1, by show (latestS d).1 = _; rw [hL]; exact c2, hw, ?_, ?_, ?_⟩
  · show readE (genB d f.2.1 (latestS d).2.1) (mny d) = 0
    rw [hL, hG, hm]; exact c4
  · show readL (genB d f.2.1 (latestS d).2.1) (mny d) = f.2.2.2
    rw [hL, hG, hm]; exact c5
  · show chkF f.2.2.2 (mny d) = 0
    rw [hm]; exact hK
/-- A disk whose blocks that tell of files' gen are as theirs, behind a loss of power. -/
theorem down_area {f : Fsd} {y : Dk} (K : List Bool) (h : okFs f) (hok : okD y = true) (hm : mny y = mny f.1) (hb : ∀ k : Nat, ofGen f.2.1 k → blk y.1 k = blk f.1.1 k) (hw : ∀ p ∈ y.2.1, ¬ ofGen f.2.1 p.1) :
    okFs (downD y K, f.2.1, f.2.2.2, f.2.2.2) ∧ openFs (downD y K) = ((downD y K, f.2.1, f.2.2.2, f.2.2.2), 0) := by
  obtain ⟨c1, c2⟩ := crash_ok K hok
  have h1 : okFs (downD y K, f.2.1, f.2.2.2, f.2.2.2) := ok_area h c1 (by rw [c2, okD_len hok, hm, okD_len (okFs_disk h).1]) (fun k hk => (off_crash (S := ofGen f.2.1) K hok hw hk).trans (hb k hk)) nil_wait
  exact ⟨h1, open_nil h1⟩
theorem wait_gen {f : Fsd} (h : okFs f) : ∀ p ∈ f.1.2.1, ¬ ofGen f.2.1 p.1 := fun p hp hs => by
  have := h.2.2.1 p hp
  unfold ofGen at hs
  omega
/-- Files that may be, opened again behind a loss of power. -/
theorem kept_open {f : Fsd} (K : List Bool) (h : okFs f) : okFs (downD f.1 K, f.2.1, f.2.2.2, f.2.2.2) ∧ openFs (downD f.1 K) = ((downD f.1 K, f.2.1, f.2.2.2, f.2.2.2), 0) :=
  down_area K h (okFs_disk h).1 rfl (fun _ _ => rfl) (wait_gen h)

/-! ### a commit, wherever power fails in it -/
def cntS (l : List Ac) : Nat := l.countP fun a => !a.1 && decide (a.2.1 < 2)
theorem cntS_append (a b : List Ac) : cntS (a ++ b) = cntS a + cntS b := List.countP_append
theorem cntS_zero {l : List Ac} (h : ∀ a ∈ l, a.1 = false → 2 ≤ a.2.1) : cntS l = 0 := by
  unfold cntS
  rw [List.countP_eq_zero]
  intro a ha
  have := h a ha
  cases e : a.1 with
  | true => simp
  | false => simp [e]; exact this e
theorem wActs_num : ∀ (bl : List (List UInt8)) (n : Int), ∀ a ∈ wActs n bl, a.1 = false ∧ n ≤ a.2.1 ∧ a.2.1 < n + bl.length
  | [], n, a, ha => by cases ha
  | b :: bl, n, a, ha => by
    rcases List.mem_cons.1 ha with rfl | ha
    · exact ⟨rfl, Int.le_refl _, by rw [List.length_cons]; show n < _; omega⟩
    · have := wActs_num bl (n + 1) a ha
      rw [List.length_cons]
      exact ⟨this.1, by omega, by omega⟩
/-- What stands behind the last act but two of a commit, cut in two. -/
def actsA (g : Nat) (l : List UInt8) : List Ac := (true, 0, []) :: (wActs ((2 + g % 2 * 16 : Nat) : Int) (wholeB l) ++ [(true, 0, [])])
def actsB (g : Nat) (l : List UInt8) : List Ac := [(false, ((g % 2 : Nat) : Int), (blockS g (l.length : Nat)).1), (true, 0, [])]
theorem actsF_cut (g : Nat) (l : List UInt8) : actsF g l = actsA g l ++ actsB g l := by
  unfold actsF actsA actsB
  simp
theorem actsA_off {g : Nat} {l : List UInt8} (hl : l.length ≤ 2048) : ∀ a ∈ actsA (g + 1) l, a.1 = false → ¬ ofGen g a.2.1 ∧ 2 ≤ a.2.1 := by
  intro a ha h
  unfold actsA at ha
  rcases List.mem_cons.1 ha with rfl | ha
  · cases h
  · rcases List.mem_append.1 ha with ha | ha
    · have := wActs_num _ _ a ha
      rw [wholeB_len] at this
      unfold ofGen
      omega
    · rw [List.mem_singleton.1 ha] at h; cases h
theorem take_ones {d x : Dk} {l : List Ac} (h : onesD d l = some x) (j : Nat) : ∃ y, onesD d (l.take j) = some y ∧ onesD y (l.drop j) = some x := by
  rw [← List.take_append_drop j l, onesD_append6] at h
  obtain ⟨y, h1, h2⟩ := Option.bind_eq_some_iff.1 h
  exact ⟨y, h1, h2⟩
/-- What is opened, of files on which acts were done, behind a loss of power. -/
def TornAt (f : Fsd) (D : List Fl) (y : Dk) (c : Nat) (K : List Bool) : Prop :=
  c ≤ 1 ∧ (okFs (downD y K, f.2.1, f.2.2.2, f.2.2.2) ∧ openFs (downD y K) = ((downD y K, f.2.1, f.2.2.2, f.2.2.2), 0) ∨
  c = 1 ∧ f.2.1 + 1 < 4294967296 ∧ okFs (downD y K, f.2.1 + 1, D, D) ∧ openFs (downD y K) = ((downD y K, f.2.1 + 1, D, D), 0))
theorem ok_data {f : Fsd} {d : List UInt8} (h : okFs f) (hw : f.1.2.1 = []) (hd : d = f.1.1) : okFs ((d, [], []), f.2.1, f.2.2.2, f.2.2.2) := by
  subst hd
  have h1 := (okFs_disk h).1
  have hok : okD ((f.1.1, [], []) : Dk) = true := by
    obtain ⟨p1, p2, p3, _⟩ := (okD_iff f.1).1 h1
    exact (okD_iff _).2 ⟨p1, p2, p3, by simp, by simp, by simp, by simp⟩
  exact ok_area h hok rfl (fun _ _ => rfl) nil_wait
theorem ok_data2 {x : Dk} {g : Nat} {D : List Fl} {d : List UInt8} (h : okFs (x, g, D, D)) (hw : x.2.1 = []) (hd : d = x.1) : okFs ((d, [], []), g, D, D) ∧ openFs (d, [], []) = (((d, [], []), g, D, D), 0) := by
  have h1 : okFs ((d, [], []), g, D, D) := ok_data (f := (x, g, D, D)) h hw hd
  exact ⟨h1, open_nil h1⟩
def OldAt (f : Fsd) (y : Dk) (K : List Bool) : Prop := okFs (downD y K, f.2.1, f.2.2.2, f.2.2.2) ∧ openFs (downD y K) = ((downD y K, f.2.1, f.2.2.2, f.2.2.2), 0)
def NewAt (f : Fsd) (D : List Fl) (y : Dk) (K : List Bool) : Prop := okFs (downD y K, f.2.1 + 1, D, D) ∧ openFs (downD y K) = ((downD y K, f.2.1 + 1, D, D), 0)
theorem kept_two {p : Pu} (K : List Bool) : (K.head? ≠ some true ∧ kept [p] K = []) ∨ (K.head? = some true ∧ kept [p] K = [p]) := by
  cases K with
  | nil => exact .inl ⟨by simp, rfl⟩
  | cons b K =>
    cases b with
    | false => exact .inl ⟨by simp, by cases K <;> rfl⟩
    | true => exact .inr ⟨rfl, by cases K <;> rfl⟩
theorem torn_exact {f : Fsd} {x : Dk} (hok : okFs f) (hg : f.2.1 + 1 < 4294967296) (h : onesD f.1 (actsF (f.2.1 + 1) (bytF f.2.2.1)) = some x) (j : Nat) (K : List Bool) :
    ∃ y, onesD f.1 ((actsF (f.2.1 + 1) (bytF f.2.2.1)).take j) = some y ∧ okD y = true ∧
      (j ≤ (actsA (f.2.1 + 1) (bytF f.2.2.1)).length ∧ cntS ((actsF (f.2.1 + 1) (bytF f.2.2.1)).take j) = 0 ∧ OldAt f y K ∨
       (actsA (f.2.1 + 1) (bytF f.2.2.1)).length < j ∧ cntS ((actsF (f.2.1 + 1) (bytF f.2.2.1)).take j) = 1 ∧
        (j = (actsA (f.2.1 + 1) (bytF f.2.2.1)).length + 1 ∧ K.head? ≠ some true ∧ OldAt f y K ∨ ¬ (j = (actsA (f.2.1 + 1) (bytF f.2.2.1)).length + 1 ∧ K.head? ≠ some true) ∧ NewAt f f.2.2.1 y K)) := by
  obtain ⟨h1, h2, h3, h4⟩ := okFs_disk hok
  have hc := hok.2.2.2.2.2
  have hb : (bytF f.2.2.1).length ≤ 2048 := (chkF_may hc).2.2.2.2
  have hx := commit_ok h1 h2 hok.2.2.1 hc (by omega) (last_le hok) h
  obtain ⟨o1, o2, o3, -⟩ := acts_block h1 h2 (by omega) hb h
  obtain ⟨y, hy, hr⟩ := take_ones h j
  have hall := actsF_ok (k := mny f.1) (g := f.2.1 + 1) h2 (by omega) hb
  obtain ⟨yk, ym, yd⟩ := okD_ones _ _ _ h1 (fun a ha => hall a (List.mem_of_mem_take ha)) hy
  refine ⟨y, hy, yk, ?_⟩
  have hoff := actsA_off (g := f.2.1) hb
  have hcA : cntS (actsA (f.2.1 + 1) (bytF f.2.2.1)) = 0 := cntS_zero (fun a ha hs => (hoff a ha hs).2)
  have hallA : ∀ a ∈ actsA (f.2.1 + 1) (bytF f.2.2.1), actE (mny f.1) a = 0 := fun a ha => hall a (by rw [actsF_cut]; exact List.mem_append_left _ ha)
  by_cases hj : j ≤ (actsA (f.2.1 + 1) (bytF f.2.2.1)).length
  · refine .inl ⟨hj, ?_⟩
    have e : (actsF (f.2.1 + 1) (bytF f.2.2.1)).take j = (actsA (f.2.1 + 1) (bytF f.2.2.1)).take j := by rw [actsF_cut, List.take_append_of_le_length hj]
    rw [e] at hy ⊢
    obtain ⟨w1, w2⟩ := off_ones (S := ofGen f.2.1) _ f.1 y h1 (fun a ha => hallA a (List.mem_of_mem_take ha)) (wait_gen hok) (fun a ha hs => (hoff a (List.mem_of_mem_take ha) hs).1) hy
    exact ⟨cntS_zero (fun a ha hs => (hoff a (List.mem_of_mem_take ha) hs).2), down_area K hok yk ym w2 w1⟩
  · refine .inr ⟨by omega, ?_⟩
    obtain ⟨z, hz, hzr⟩ := take_ones (by rw [← actsF_cut]; exact h : onesD f.1 (actsA (f.2.1 + 1) (bytF f.2.2.1) ++ actsB (f.2.1 + 1) (bytF f.2.2.1)) = some x) (actsA (f.2.1 + 1) (bytF f.2.2.1)).length
    rw [List.take_left] at hz
    rw [List.drop_left] at hzr
    obtain ⟨w1, w2⟩ := off_ones (S := ofGen f.2.1) _ f.1 z h1 hallA (wait_gen hok) (fun a ha hs => (hoff a ha hs).1) hz
    obtain ⟨zk, zm, zd⟩ := okD_ones _ _ _ h1 hallA hz
    have zw : z.2.1 = [] := by
      have e : actsA (f.2.1 + 1) (bytF f.2.2.1) = ((true, 0, []) :: wActs ((2 + (f.2.1 + 1) % 2 * 16 : Nat) : Int) (wholeB (bytF f.2.2.1))) ++ [(true, 0, [])] := rfl
      rw [e, onesD_append6] at hz
      obtain ⟨v, hv, hv2⟩ := Option.bind_eq_some_iff.1 hz
      rw [onesD_one] at hv2
      unfold oneD at hv2
      split at hv2
      · cases hv2
      · try rw [if_pos rfl] at hv2
        cases hv2; rfl
    have e2 : (actsF (f.2.1 + 1) (bytF f.2.2.1)).take j = actsA (f.2.1 + 1) (bytF f.2.2.1) ++ (actsB (f.2.1 + 1) (bytF f.2.2.1)).take (j - (actsA (f.2.1 + 1) (bytF f.2.2.1)).length) := by
      rw [actsF_cut, List.take_append, List.take_of_length_le (by omega)]
    rw [e2, cntS_append, hcA, Nat.zero_add]
    rw [e2, onesD_append6, hz] at hy
    have hy : onesD z ((actsB (f.2.1 + 1) (bytF f.2.2.1)).take (j - (actsA (f.2.1 + 1) (bytF f.2.2.1)).length)) = some y := hy
    -- the superblock is written
    obtain ⟨v, hv, hvx⟩ : ∃ v, oneD z (false, (((f.2.1 + 1) % 2 : Nat) : Int), (blockS (f.2.1 + 1) ((bytF f.2.2.1).length : Nat)).1) = some v ∧ oneD v (true, 0, []) = some x := by
      have e : onesD z (actsB (f.2.1 + 1) (bytF f.2.2.1)) = (match oneD z (false, (((f.2.1 + 1) % 2 : Nat) : Int), (blockS (f.2.1 + 1) ((bytF f.2.2.1).length : Nat)).1) with | none => none | some x => onesD x [(true, 0, [])]) := rfl
      rw [e] at hzr
      cases e1 : oneD z (false, (((f.2.1 + 1) % 2 : Nat) : Int), (blockS (f.2.1 + 1) ((bytF f.2.2.1).length : Nat)).1) with
      | none => rw [e1] at hzr; cases hzr
      | some v => rw [e1] at hzr; exact ⟨v, rfl, by rw [← onesD_one]; exact hzr⟩
    have hvi : v.1 = z.1 ∧ v.2.1 = [((((f.2.1 + 1) % 2 : Nat) : Int), (blockS (f.2.1 + 1) ((bytF f.2.2.1).length : Nat)).1)] := by
      unfold oneD at hv
      split at hv
      · cases hv
      · try rw [if_neg (by simp)] at hv
        cases hv
        rw [zw]
        exact ⟨rfl, rfl⟩
    have hxi : x.1 = setBs v.1 v.2.1 := by
      unfold oneD at hvx
      split at hvx
      · cases hvx
      · try rw [if_pos rfl] at hvx
        cases hvx; rfl
    have hnew : ∀ d : List UInt8, d = x.1 → okFs ((d, [], []), f.2.1 + 1, f.2.2.1, f.2.2.1) ∧ openFs (d, [], []) = (((d, [], []), f.2.1 + 1, f.2.2.1, f.2.2.1), 0) := fun d hd => by
      exact ok_data2 hx o3 hd
    rcases (by omega : j = (actsA (f.2.1 + 1) (bytF f.2.2.1)).length + 1 ∨ 2 ≤ j - (actsA (f.2.1 + 1) (bytF f.2.2.1)).length) with h5 | h5
    · have h5' : j - (actsA (f.2.1 + 1) (bytF f.2.2.1)).length = 1 := by omega
      rw [h5'] at hy ⊢
      have e3 : (actsB (f.2.1 + 1) (bytF f.2.2.1)).take 1 = [(false, (((f.2.1 + 1) % 2 : Nat) : Int), (blockS (f.2.1 + 1) ((bytF f.2.2.1).length : Nat)).1)] := rfl
      rw [e3] at hy ⊢
      rw [onesD_one, hv] at hy
      cases hy
      refine ⟨?_, ?_⟩
      · unfold cntS
        rw [List.countP_singleton, if_pos (by simp; omega)]
      rcases kept_two (p := ((((f.2.1 + 1) % 2 : Nat) : Int), (blockS (f.2.1 + 1) ((bytF f.2.2.1).length : Nat)).1)) K with ⟨hk1, hk⟩ | ⟨hk1, hk⟩
      · refine .inl ⟨h5, hk1, ?_⟩
        have e4 : downD y K = downD z [] := by
          unfold downD
          rw [hvi.2, hk, zw, hvi.1]
          rfl
        unfold OldAt
        rw [e4]
        exact down_area [] hok zk zm w2 w1
      · refine .inr ⟨fun hn => hn.2 hk1, ?_⟩
        exact hnew _ (by rw [hxi, hvi.2, hk])
    · have e3 : (actsB (f.2.1 + 1) (bytF f.2.2.1)).take (j - (actsA (f.2.1 + 1) (bytF f.2.2.1)).length) = actsB (f.2.1 + 1) (bytF f.2.2.1) := List.take_of_length_le (by unfold actsB; simpa using h5)
      rw [e3] at hy ⊢
      rw [hzr] at hy
      cases hy
      refine ⟨?_, .inr ⟨fun hn => by omega, ?_⟩⟩
      · have e : actsB (f.2.1 + 1) (bytF f.2.2.1) = [(false, (((f.2.1 + 1) % 2 : Nat) : Int), (blockS (f.2.1 + 1) ((bytF f.2.2.1).length : Nat)).1)] ++ [(true, 0, [])] := rfl
        rw [e, cntS_append]
        unfold cntS
        rw [List.countP_singleton, List.countP_singleton, if_pos (by simp; omega), if_neg (by simp)]
      · exact hnew _ (by rw [o3]; cases K <;> rfl)
theorem torn_commit {f : Fsd} {x : Dk} (hok : okFs f) (hg : f.2.1 + 1 < 4294967296) (h : onesD f.1 (actsF (f.2.1 + 1) (bytF f.2.2.1)) = some x) (j : Nat) (K : List Bool) :
    ∃ y, onesD f.1 ((actsF (f.2.1 + 1) (bytF f.2.2.1)).take j) = some y ∧ okD y = true ∧ TornAt f f.2.2.1 y (cntS ((actsF (f.2.1 + 1) (bytF f.2.2.1)).take j)) K := by
  obtain ⟨y, y1, y2, y3⟩ := torn_exact hok hg h j K
  refine ⟨y, y1, y2, ?_⟩
  rcases y3 with ⟨_, c, o⟩ | ⟨_, c, ⟨_, _, o⟩ | ⟨_, o⟩⟩
  · rw [c]; exact ⟨by omega, .inl o⟩
  · rw [c]; exact ⟨by omega, .inl o⟩
  · rw [c]; exact ⟨by omega, .inr ⟨rfl, hg, o⟩⟩

end Go.Proofs.YtnigdbhjaoeblaaGreat
