/-
  Plain mathematics of a log's file: blocks that are put, and a loss of power.
-/
import Derived.Test.YtmeaiocohalphaaGreatDoorMathFs8
import Derived.Test.YtmeaiocohalphaaGreatDoorMathSl
import Derived.Test.YtmeaiocohalphaaGreatDoorFsFn6
namespace Go.Proofs.YtmeaiocohalphaaGreatDoor
open Go.RowKit
set_option linter.unusedVariables false
set_option linter.unusedSimpArgs false
def openFs (d : Dk) : Fsd × Int :=
 if (latestS d).2.2 ≠ 0 then (fz, (latestS d).2.2)
 else if d.2.1.any (fun p => decide (p.1 < 34)) = true then (fz, 70)
 else if readE (genB d (latestS d).1 (latestS d).2.1) (mny d) ≠ 0 then (fz, 70)
 else (((d.1, d.2.1, []), (latestS d).1, readL (genB d (latestS d).1 (latestS d).2.1) (mny d), readL (genB d (latestS d).1 (latestS d).2.1) (mny d)), 0)
def tornM (f g : Fsd) (many : Int) (K : List Bool) : Dk × Int :=
 if fsE f ≠ 0 ∨ fsE g ≠ 0 ∨ f.1.2.2 ≠ [] then (dz, 8)
 else if (doD f.1 g.1.2.2 (g.1.2.2.length : Nat)).2 ≠ 0 ∨ ¬ ((doD f.1 g.1.2.2 (g.1.2.2.length : Nat)).1.1 = g.1.1 ∧ (doD f.1 g.1.2.2 (g.1.2.2.length : Nat)).1.2.1 = g.1.2.1) then (dz, 8)
 else if many < 0 ∨ (g.1.2.2.length : Int) < many then (dz, 2)
 else crashD (doD f.1 g.1.2.2 many).1 K
abbrev downD (d : Dk) (K : List Bool) : Dk := (setBs d.1 (kept d.2.1 K), [], [])
theorem nil_wait : ∀ p ∈ ([] : List Pu), 34 ≤ p.1 := by intro p hp; cases hp
theorem open_ok {f : Fsd} (h : okFs f) : openFs f.1 = (((f.1.1, f.1.2.1, []), f.2.1, f.2.2.2, f.2.2.2), 0) := by
 have h3 := (okFs_disk h).2.2.2
 obtain ⟨c1, c2, c3, c4, c5, c6⟩ := h
 unfold openFs
 have hn : ¬ f.1.2.1.any (fun p => decide (p.1 < 34)) = true := by
  rw [List.any_eq_true]
  rintro ⟨p, hp, h4⟩
  have := c3 p hp
  simp at h4
  omega
 rw [if_neg (by rw [c1]; decide), if_neg hn, c2, if_neg (by rw [c4]; decide), c5]
theorem open_nil {s : List UInt8} {g : Nat} {D K : List Fl} (h : okFs ((s, [], []), g, D, K)) : openFs (s, [], []) = (((s, [], []), g, K, K), 0) := by
 have h2 := open_ok h
 dsimp only at h2
 exact h2
theorem lastP_no {l : List Pu} {k : Int} (h : ∀ p ∈ l, p.1 ≠ k) : lastP k l = none := by
 induction l with
 | nil => rfl
 | cons p l ih =>
  unfold lastP
  rw [ih (fun q hq => h q (List.mem_cons_of_mem _ hq))]
  simp only
  rw [if_neg (h p (List.mem_cons_self ..))]
theorem put_in {d : Dk} (h : okD d = true) : ∀ p ∈ d.2.1, 0 ≤ p.1 ∧ 128 * p.1.toNat + 128 ≤ d.1.length ∧ p.2.length = 128 := fun p hp => by
 obtain ⟨hf, _, _⟩ := Fine.of_ok h
 have := putE_ok (hf.2.2.2 p hp)
 have := hf.1
 omega
theorem blk_crash {d : Dk} (K : List Bool) (h : okD d = true) (n : Nat) : blk (setBs d.1 (kept d.2.1 K)) n = (lastP n (kept d.2.1 K)).getD (blk d.1 n) :=
 blk_setBs d.1 n _ d.1 rfl (fun p hp => put_in h p (kept_mem _ _ _ hp))
theorem off_crash {S : Int → Prop} {d : Dk} (K : List Bool) (h : okD d = true) (hw : ∀ p ∈ d.2.1, ¬ S p.1) {k : Nat} (hk : S k) : blk (setBs d.1 (kept d.2.1 K)) k = blk d.1 k := by
 rw [blk_crash K h, lastP_no (fun p hp e => hw p (kept_mem _ _ _ hp) (e ▸ hk))]
 rfl
theorem off_one {S : Int → Prop} {d x : Dk} {a : Ac} (h : okD d = true) (hw : ∀ p ∈ d.2.1, ¬ S p.1) (ha : a.1 = false → ¬ S a.2.1) (he : oneD d a = some x) : (∀ p ∈ x.2.1, ¬ S p.1) ∧ ∀ k : Nat, S k → blk x.1 k = blk d.1 k := by
 unfold oneD at he
 split at he
 ·cases he
 ·split at he
  ·cases he
   refine ⟨(fun p hp => by cases hp), fun k hk => ?_⟩
   show blk (setBs d.1 d.2.1) k = _
   rw [blk_setBs d.1 k _ d.1 rfl (put_in h), lastP_no (fun p hp e => hw p hp (e ▸ hk))]
   rfl
  ·rename_i h1 h2
   cases he
   refine ⟨fun p hp => ?_, fun k hk => rfl⟩
   rcases List.mem_append.1 hp with hp | hp
   ·exact hw p hp
   ·rw [List.mem_singleton.1 hp]; exact ha (by simpa using h2)
theorem off_ones {S : Int → Prop} : ∀ (l : List Ac) (d x : Dk), okD d = true → (∀ a ∈ l, actE (mny d) a = 0) → (∀ p ∈ d.2.1, ¬ S p.1) → (∀ a ∈ l, a.1 = false → ¬ S a.2.1) → onesD d l = some x → (∀ p ∈ x.2.1, ¬ S p.1) ∧ ∀ k : Nat, S k → blk x.1 k = blk d.1 k
 | [], d, x, _, _, hw, _, he => by cases he; exact ⟨hw, fun _ _ => rfl⟩
 | a :: l, d, x, h, ha, hw, hs, he => by
  have e : onesD d (a :: l) = (match oneD d a with | none => none | some x => onesD x l) := rfl
  rw [e] at he
  cases e1 : oneD d a with
  | none => rw [e1] at he; cases he
  | some y =>
   rw [e1] at he
   obtain ⟨h1, h2, _⟩ := okD_one h (ha a (List.mem_cons_self ..)) e1
   obtain ⟨k1, k2⟩ := off_one h hw (hs a (List.mem_cons_self ..)) e1
   obtain ⟨j1, j2⟩ := off_ones l y x h1 (fun b hb => by rw [h2]; exact ha b (List.mem_cons_of_mem _ hb)) k1 (fun b hb => hs b (List.mem_cons_of_mem _ hb)) he
   exact ⟨j1, fun k hk => (j2 k hk).trans (k2 k hk)⟩
def ofGen (g : Nat) (n : Int) : Prop := (0 ≤ n ∧ n < 2) ∨ (((2 + g % 2 * 16 : Nat) : Int) ≤ n ∧ n < ((2 + g % 2 * 16 + 16 : Nat) : Int))
theorem genB_area {x d : Dk} {g sz : Nat} (hx : x.1.length = d.1.length) (hlen : d.1.length = 128 * mny d) (hm : 34 < mny d) (hs : sz ≤ 2048) (h : ∀ k : Nat, ofGen g k → blk x.1 k = blk d.1 k) : genB x g sz = genB d g sz := by
 unfold genB
 apply List.ext_getElem?
 intro i
 rw [List.getElem?_take, List.getElem?_take]
 by_cases hi : i < sz
 ·rw [if_pos hi, if_pos hi, List.getElem?_drop, List.getElem?_drop]
  have e1 : 128 * (2 + g % 2 * 16) + i = 128 * (2 + g % 2 * 16 + i / 128) + i % 128 := by omega
  rw [e1, ← blk_get (by omega) (by omega), ← blk_get (by omega) (by omega), h _ (by unfold ofGen; omega)]
 ·rw [if_neg hi, if_neg hi]
theorem ok_area {f : Fsd} {d : Dk} (h : okFs f) (hok : okD d = true) (hlen : d.1.length = f.1.1.length) (hb : ∀ k : Nat, ofGen f.2.1 k → blk d.1 k = blk f.1.1 k) (hw : ∀ p ∈ d.2.1, 34 ≤ p.1) : okFs (d, f.2.1, f.2.2.2, f.2.2.2) := by
 obtain ⟨h1, h2, h3, h4⟩ := okFs_disk h
 obtain ⟨s1, s2⟩ := okFs_size h
 have hm : mny d = mny f.1 := by unfold mny; rw [hlen]
 have hL : latestS d = latestS f.1 := by
  have e1 : bestS d = bestS f.1 := by unfold bestS; rw [lastS_same (hb 0 (by unfold ofGen; omega)), lastS_same (hb 1 (by unfold ofGen; omega))]
  unfold latestS
  rw [e1, hm, chk_ok hok, chk_ok h1]
 have hG : genB d f.2.1 (latestS f.1).2.1 = genB f.1 f.2.1 (latestS f.1).2.1 := genB_area hlen (okD_len h1) h2 s1 hb
 have hK := kept_chk h
 obtain ⟨c1, c2, c3, c4, c5, c6⟩ := h
 refine ⟨by show (latestS d).2.2 = 0; rw [hL]; exact c1, by show (latestS d).1 = _; rw [hL]; exact c2, hw, ?_, ?_, ?_⟩
 ·show readE (genB d f.2.1 (latestS d).2.1) (mny d) = 0
  rw [hL, hG, hm]; exact c4
 ·show readL (genB d f.2.1 (latestS d).2.1) (mny d) = f.2.2.2
  rw [hL, hG, hm]; exact c5
 ·show chkF f.2.2.2 (mny d) = 0
  rw [hm]; exact hK
theorem down_area {f : Fsd} {y : Dk} (K : List Bool) (h : okFs f) (hok : okD y = true) (hm : mny y = mny f.1) (hb : ∀ k : Nat, ofGen f.2.1 k → blk y.1 k = blk f.1.1 k) (hw : ∀ p ∈ y.2.1, ¬ ofGen f.2.1 p.1) :
  okFs (downD y K, f.2.1, f.2.2.2, f.2.2.2) ∧ openFs (downD y K) = ((downD y K, f.2.1, f.2.2.2, f.2.2.2), 0) := by
 obtain ⟨c1, c2⟩ := crash_ok K hok
 have h1 : okFs (downD y K, f.2.1, f.2.2.2, f.2.2.2) := ok_area h c1 (by rw [c2, okD_len hok, hm, okD_len (okFs_disk h).1]) (fun k hk => (off_crash (S := ofGen f.2.1) K hok hw hk).trans (hb k hk)) nil_wait
 exact ⟨h1, open_nil h1⟩
theorem wait_gen {f : Fsd} (h : okFs f) : ∀ p ∈ f.1.2.1, ¬ ofGen f.2.1 p.1 := fun p hp hs => by
 have := h.2.2.1 p hp
 unfold ofGen at hs
 omega
/-! ### a commit, wherever power fails in it -/
def cntS (l : List Ac) : Nat := l.countP fun a => !a.1 && decide (a.2.1 < 2)
theorem cntS_append (a b : List Ac) : cntS (a ++ b) = cntS a + cntS b := List.countP_append
theorem cntS_zero {l : List Ac} (h : ∀ a ∈ l, a.1 = false → 2 ≤ a.2.1) : cntS l = 0 := by
 unfold cntS
 rw [List.countP_eq_zero]
 intro a ha
 have := h a ha
 cases e : a.1 with
 | true => simp
 | false => simp [e]; exact this e
theorem wActs_num : ∀ (bl : List (List UInt8)) (n : Int), ∀ a ∈ wActs n bl, a.1 = false ∧ n ≤ a.2.1 ∧ a.2.1 < n + bl.length
 | [], n, a, ha => by cases ha
 | b :: bl, n, a, ha => by
  rcases List.mem_cons.1 ha with rfl | ha
  ·exact ⟨rfl, Int.le_refl _, by rw [List.length_cons]; show n < _; omega⟩
  ·have := wActs_num bl (n + 1) a ha
   rw [List.length_cons]
   exact ⟨this.1, by omega, by omega⟩
def actsA (g : Nat) (l : List UInt8) : List Ac := (true, 0, []) :: (wActs ((2 + g % 2 * 16 : Nat) : Int) (wholeB l) ++ [(true, 0, [])])
def actsB (g : Nat) (l : List UInt8) : List Ac := [(false, ((g % 2 : Nat) : Int), (blockS g (l.length : Nat)).1), (true, 0, [])]
theorem actsF_cut (g : Nat) (l : List UInt8) : actsF g l = actsA g l ++ actsB g l := by
 unfold actsF actsA actsB
 simp
theorem actsA_off {g : Nat} {l : List UInt8} (hl : l.length ≤ 2048) : ∀ a ∈ actsA (g + 1) l, a.1 = false → ¬ ofGen g a.2.1 ∧ 2 ≤ a.2.1 := by
 intro a ha h
 unfold actsA at ha
 rcases List.mem_cons.1 ha with rfl | ha
 ·cases h
 ·rcases List.mem_append.1 ha with ha | ha
  ·have := wActs_num _ _ a ha
   rw [wholeB_len] at this
   unfold ofGen
   omega
  ·rw [List.mem_singleton.1 ha] at h; cases h
theorem take_ones {d x : Dk} {l : List Ac} (h : onesD d l = some x) (j : Nat) : ∃ y, onesD d (l.take j) = some y ∧ onesD y (l.drop j) = some x := by
 rw [← List.take_append_drop j l, onesD_append6] at h
 obtain ⟨y, h1, h2⟩ := Option.bind_eq_some_iff.1 h
 exact ⟨y, h1, h2⟩
theorem ok_data {f : Fsd} {d : List UInt8} (h : okFs f) (hw : f.1.2.1 = []) (hd : d = f.1.1) : okFs ((d, [], []), f.2.1, f.2.2.2, f.2.2.2) := by
 subst hd
 have h1 := (okFs_disk h).1
 have hok : okD ((f.1.1, [], []) : Dk) = true := by
  obtain ⟨p1, p2, p3, _⟩ := (okD_iff f.1).1 h1
  exact (okD_iff _).2 ⟨p1, p2, p3, by simp, by simp, by simp, by simp⟩
 exact ok_area h hok rfl (fun _ _ => rfl) nil_wait
theorem ok_data2 {x : Dk} {g : Nat} {D : List Fl} {d : List UInt8} (h : okFs (x, g, D, D)) (hw : x.2.1 = []) (hd : d = x.1) : okFs ((d, [], []), g, D, D) ∧ openFs (d, [], []) = (((d, [], []), g, D, D), 0) := by
 have h1 : okFs ((d, [], []), g, D, D) := ok_data (f := (x, g, D, D)) h hw hd
 exact ⟨h1, open_nil h1⟩
def OldAt (f : Fsd) (y : Dk) (K : List Bool) : Prop := okFs (downD y K, f.2.1, f.2.2.2, f.2.2.2) ∧ openFs (downD y K) = ((downD y K, f.2.1, f.2.2.2, f.2.2.2), 0)
def NewAt (f : Fsd) (D : List Fl) (y : Dk) (K : List Bool) : Prop := okFs (downD y K, f.2.1 + 1, D, D) ∧ openFs (downD y K) = ((downD y K, f.2.1 + 1, D, D), 0)
theorem kept_two {p : Pu} (K : List Bool) : (K.head? ≠ some true ∧ kept [p] K = []) ∨ (K.head? = some true ∧ kept [p] K = [p]) := by
 cases K with
 | nil => exact .inl ⟨by simp, rfl⟩
 | cons b K =>
  cases b with
  | false => exact .inl ⟨by simp, by cases K <;> rfl⟩
  | true => exact .inr ⟨rfl, by cases K <;> rfl⟩
theorem torn_exact {f : Fsd} {x : Dk} (hok : okFs f) (hg : f.2.1 + 1 < 4294967296) (h : onesD f.1 (actsF (f.2.1 + 1) (bytF f.2.2.1)) = some x) (j : Nat) (K : List Bool) :
  ∃ y, onesD f.1 ((actsF (f.2.1 + 1) (bytF f.2.2.1)).take j) = some y ∧ okD y = true ∧
   (j ≤ (actsA (f.2.1 + 1) (bytF f.2.2.1)).length ∧ cntS ((actsF (f.2.1 + 1) (bytF f.2.2.1)).take j) = 0 ∧ OldAt f y K ∨
    (actsA (f.2.1 + 1) (bytF f.2.2.1)).length < j ∧ cntS ((actsF (f.2.1 + 1) (bytF f.2.2.1)).take j) = 1 ∧
    (j = (actsA (f.2.1 + 1) (bytF f.2.2.1)).length + 1 ∧ K.head? ≠ some true ∧ OldAt f y K ∨ ¬ (j = (actsA (f.2.1 + 1) (bytF f.2.2.1)).length + 1 ∧ K.head? ≠ some true) ∧ NewAt f f.2.2.1 y K)) := by
 obtain ⟨h1, h2, h3, h4⟩ := okFs_disk hok
 have hc := hok.2.2.2.2.2
 have hb : (bytF f.2.2.1).length ≤ 2048 := (chkF_may hc).2.2.2.2
 have hx := commit_ok h1 h2 hok.2.2.1 hc (by omega) (last_le hok) h
 obtain ⟨o1, o2, o3, -⟩ := acts_block h1 h2 (by omega) hb h
 obtain ⟨y, hy, hr⟩ := take_ones h j
 have hall := actsF_ok (k := mny f.1) (g := f.2.1 + 1) h2 (by omega) hb
 obtain ⟨yk, ym, yd⟩ := okD_ones _ _ _ h1 (fun a ha => hall a (List.mem_of_mem_take ha)) hy
 refine ⟨y, hy, yk, ?_⟩
 have hoff := actsA_off (g := f.2.1) hb
 have hcA : cntS (actsA (f.2.1 + 1) (bytF f.2.2.1)) = 0 := cntS_zero (fun a ha hs => (hoff a ha hs).2)
 have hallA : ∀ a ∈ actsA (f.2.1 + 1) (bytF f.2.2.1), actE (mny f.1) a = 0 := fun a ha => hall a (by rw [actsF_cut]; exact List.mem_append_left _ ha)
 by_cases hj : j ≤ (actsA (f.2.1 + 1) (bytF f.2.2.1)).length
 ·refine .inl ⟨hj, ?_⟩
  have e : (actsF (f.2.1 + 1) (bytF f.2.2.1)).take j = (actsA (f.2.1 + 1) (bytF f.2.2.1)).take j := by rw [actsF_cut, List.take_append_of_le_length hj]
  rw [e] at hy ⊢
  obtain ⟨w1, w2⟩ := off_ones (S := ofGen f.2.1) _ f.1 y h1 (fun a ha => hallA a (List.mem_of_mem_take ha)) (wait_gen hok) (fun a ha hs => (hoff a (List.mem_of_mem_take ha) hs).1) hy
  exact ⟨cntS_zero (fun a ha hs => (hoff a (List.mem_of_mem_take ha) hs).2), down_area K hok yk ym w2 w1⟩
 ·refine .inr ⟨by omega, ?_⟩
  obtain ⟨z, hz, hzr⟩ := take_ones (by rw [← actsF_cut]; exact h : onesD f.1 (actsA (f.2.1 + 1) (bytF f.2.2.1) ++ actsB (f.2.1 + 1) (bytF f.2.2.1)) = some x) (actsA (f.2.1 + 1) (bytF f.2.2.1)).length
  rw [List.take_left] at hz
  rw [List.drop_left] at hzr
  obtain ⟨w1, w2⟩ := off_ones (S := ofGen f.2.1) _ f.1 z h1 hallA (wait_gen hok) (fun a ha hs => (hoff a ha hs).1) hz
  obtain ⟨zk, zm, zd⟩ := okD_ones _ _ _ h1 hallA hz
  have zw : z.2.1 = [] := by
   have e : actsA (f.2.1 + 1) (bytF f.2.2.1) = ((true, 0, []) :: wActs ((2 + (f.2.1 + 1) % 2 * 16 : Nat) : Int) (wholeB (bytF f.2.2.1))) ++ [(true, 0, [])] := rfl
   rw [e, onesD_append6] at hz
   obtain ⟨v, hv, hv2⟩ := Option.bind_eq_some_iff.1 hz
   rw [onesD_one] at hv2
   unfold oneD at hv2
   split at hv2
   ·cases hv2
   ·try rw [if_pos rfl] at hv2
    cases hv2; rfl
  have e2 : (actsF (f.2.1 + 1) (bytF f.2.2.1)).take j = actsA (f.2.1 + 1) (bytF f.2.2.1) ++ (actsB (f.2.1 + 1) (bytF f.2.2.1)).take (j - (actsA (f.2.1 + 1) (bytF f.2.2.1)).length) := by
   rw [actsF_cut, List.take_append, List.take_of_length_le (by omega)]
  rw [e2, cntS_append, hcA, Nat.zero_add]
  rw [e2, onesD_append6, hz] at hy
  have hy : onesD z ((actsB (f.2.1 + 1) (bytF f.2.2.1)).take (j - (actsA (f.2.1 + 1) (bytF f.2.2.1)).length)) = some y := hy
  -- the superblock is written
  obtain ⟨v, hv, hvx⟩ : ∃ v, oneD z (false, (((f.2.1 + 1) % 2 : Nat) : Int), (blockS (f.2.1 + 1) ((bytF f.2.2.1).length : Nat)).1) = some v ∧ oneD v (true, 0, []) = some x := by
   have e : onesD z (actsB (f.2.1 + 1) (bytF f.2.2.1)) = (match oneD z (false, (((f.2.1 + 1) % 2 : Nat) : Int), (blockS (f.2.1 + 1) ((bytF f.2.2.1).length : Nat)).1) with | none => none | some x => onesD x [(true, 0, [])]) := rfl
   rw [e] at hzr
   cases e1 : oneD z (false, (((f.2.1 + 1) % 2 : Nat) : Int), (blockS (f.2.1 + 1) ((bytF f.2.2.1).length : Nat)).1) with
   | none => rw [e1] at hzr; cases hzr
   | some v => rw [e1] at hzr; exact ⟨v, rfl, by rw [← onesD_one]; exact hzr⟩
  have hvi : v.1 = z.1 ∧ v.2.1 = [((((f.2.1 + 1) % 2 : Nat) : Int), (blockS (f.2.1 + 1) ((bytF f.2.2.1).length : Nat)).1)] := by
   unfold oneD at hv
   split at hv
   ·cases hv
   ·try rw [if_neg (by simp)] at hv
    cases hv
    rw [zw]
    exact ⟨rfl, rfl⟩
  have hxi : x.1 = setBs v.1 v.2.1 := by
   unfold oneD at hvx
   split at hvx
   ·cases hvx
   ·try rw [if_pos rfl] at hvx
    cases hvx; rfl
  have hnew : ∀ d : List UInt8, d = x.1 → okFs ((d, [], []), f.2.1 + 1, f.2.2.1, f.2.2.1) ∧ openFs (d, [], []) = (((d, [], []), f.2.1 + 1, f.2.2.1, f.2.2.1), 0) := fun d hd => by
   exact ok_data2 hx o3 hd
  rcases (by omega : j = (actsA (f.2.1 + 1) (bytF f.2.2.1)).length + 1 ∨ 2 ≤ j - (actsA (f.2.1 + 1) (bytF f.2.2.1)).length) with h5 | h5
  ·have h5' : j - (actsA (f.2.1 + 1) (bytF f.2.2.1)).length = 1 := by omega
   rw [h5'] at hy ⊢
   have e3 : (actsB (f.2.1 + 1) (bytF f.2.2.1)).take 1 = [(false, (((f.2.1 + 1) % 2 : Nat) : Int), (blockS (f.2.1 + 1) ((bytF f.2.2.1).length : Nat)).1)] := rfl
   rw [e3] at hy ⊢
   rw [onesD_one, hv] at hy
   cases hy
   refine ⟨?_, ?_⟩
   ·unfold cntS
    rw [List.countP_singleton, if_pos (by simp; omega)]
   rcases kept_two (p := ((((f.2.1 + 1) % 2 : Nat) : Int), (blockS (f.2.1 + 1) ((bytF f.2.2.1).length : Nat)).1)) K with ⟨hk1, hk⟩ | ⟨hk1, hk⟩
   ·refine .inl ⟨h5, hk1, ?_⟩
    have e4 : downD y K = downD z [] := by
     unfold downD
     rw [hvi.2, hk, zw, hvi.1]
     rfl
    unfold OldAt
    rw [e4]
    exact down_area [] hok zk zm w2 w1
   ·refine .inr ⟨fun hn => hn.2 hk1, ?_⟩
    exact hnew _ (by rw [hxi, hvi.2, hk])
  ·have e3 : (actsB (f.2.1 + 1) (bytF f.2.2.1)).take (j - (actsA (f.2.1 + 1) (bytF f.2.2.1)).length) = actsB (f.2.1 + 1) (bytF f.2.2.1) := List.take_of_length_le (by unfold actsB; simpa using h5)
   rw [e3] at hy ⊢
   rw [hzr] at hy
   cases hy
   refine ⟨?_, .inr ⟨fun hn => by omega, ?_⟩⟩
   ·have e : actsB (f.2.1 + 1) (bytF f.2.2.1) = [(false, (((f.2.1 + 1) % 2 : Nat) : Int), (blockS (f.2.1 + 1) ((bytF f.2.2.1).length : Nat)).1)] ++ [(true, 0, [])] := rfl
    rw [e, cntS_append]
    unfold cntS
    rw [List.countP_singleton, List.countP_singleton, if_pos (by simp; omega), if_neg (by simp)]
   ·exact hnew _ (by rw [o3]; cases K <;> rfl)
def genF (b : List UInt8) : Nat := un4 (b.take 4)
abbrev Op := List UInt8 × Nat × Nat
theorem take_spliceF {α : Type} (cur x : List α) (off n : Nat) (h : off + x.length ≤ n) (hn : n ≤ cur.length) : (cur.take off ++ (x ++ cur.drop (off + x.length))).take n = (cur.take n).take off ++ (x ++ (cur.take n).drop (off + x.length)) := by
 have h1 : (cur.take off).length = off := by rw [List.length_take]; omega
 rw [List.take_append, List.take_append, h1, List.take_of_length_le (l := cur.take off) (by omega), List.take_of_length_le (l := x) (by omega), List.take_take, Nat.min_eq_left (by omega), List.drop_take, Nat.sub_sub]
theorem wpList_copyF {P : Program} (w : World) {ops : Array Oper} {rest : List Oper} {o : Oper} {a : Act} {Q : Exit → Act → World → Prop} (hgd : o.guard = none) (d s : Operand) (dT : TypeId)
  (ho : o.op = .call { callee := .builtin .copy, args := #[d, s], argTypes := #[dT, dT] }) (hu : P.underlying dT = some (.slice 5)) (hsz : (P.info? 5).map (·.size) = some 1)
  (base g n c off dLen dCap : Nat) (hd : a.eval d = .slice (some ⟨g, off, none⟩) dLen dCap) (v : Value) (l : List UInt8) (hs : a.eval s = v) (hrd : Rd w v l)
  (data : List UInt8) (hown : OwB w base (.slice (some ⟨g, 0, none⟩) n c) data) (hfit : off + dLen = data.length)
  (h : ∀ w', w.grownBy w' (some g) → OwB w' base (.slice (some ⟨g, 0, none⟩) n c) (splice data off (l.take dLen)) → wpList P ops Q rest (a.put o.dst (goInt (l.take dLen).length)) w') :
  wpList P ops Q (o :: rest) a w := by
 obtain ⟨sa, sc, rfl⟩ := hrd.form
 by_cases hpos : l = []
 ·subst hpos
  refine wpList_copy_nothing hgd d s dT dT ho 5 hu hsz _ _ _ _ _ _ hd hs (Nat.min_eq_left (Nat.zero_le _)) ?_
  have hh := h w (World.grownBy.refl _ _)
  have e0 : (([] : List UInt8).take dLen).length = 0 := by simp
  rw [e0] at hh
  refine hh ?_
  have e : splice data off (([] : List UInt8).take dLen) = data := by simp [splice]
  rw [e]; exact hown
 ·rcases hrd with ⟨e, _⟩ | ⟨b, of, c', e, hc, hm, hcell⟩
  ·exact absurd e hpos
  ·cases e
   have hlt : (l.take dLen).length = min dLen l.length := List.length_take
   have hlen : (u8v (l.take dLen)).length = min dLen l.length := by simp [u8v]
   obtain ⟨hx, h' | ⟨g', cap', cur, e, h1, h2, h3, h4, h5, h6⟩⟩ := hown
   ·cases h'.1
   ·cases e
    have htk : cur.toList.take data.length = u8v data := by rw [← h6, Nat.mul_one]
    have hcs : data.length ≤ cur.size := by rw [h5]; omega
    refine wpList_copy_own hgd d s dT dT ho 5 hu hsz g off _ dCap ⟨b, of, none⟩ l.length sc hd hs cur _ h2 (u8v (l.take dLen)) (by rw [hlen]; exact Nat.min_comm _ _) ?_ (by rw [hlen]; omega) (u8v_oneCell _) ?_
    ·intro j u hj
     obtain ⟨hj', rfl⟩ := u8v_getElem? (l.take dLen) j u hj
     rw [Addr.add_lit]
     rw [List.length_take] at hj'
     rw [List.getElem_take]
     exact hcell j (by omega)
    ·rw [hlen, ← hlt]
     refine h _ ⟨rfl, rfl, rfl, by simp [World.setRow], fun k _ hk => setRow_other w g k _ (fun e => hk (by rw [e]))⟩ ?_
     have hl2 : (splice data off (l.take dLen)).length = data.length := length_splice _ _ _ (by rw [hlt]; omega)
     refine ⟨by simp [u8v], .inr ⟨g, c, _, by rw [hl2], h1, setRow_heap w g _ _ _ _ h2, by rw [hl2]; exact h3, h4, ?_, ?_⟩⟩
     ·have hz : cur.toList.length = c * 1 := by rw [Array.length_toList, h5]
      simp [hlen]; omega
     ·rw [hl2, u8v_splice, hlen, Nat.mul_one]
      show ((cur.toList.take off ++ (u8v (l.take dLen) ++ cur.toList.drop (off + (l.take dLen).length))).take data.length) = _
      have hx1 : off + (u8v (l.take dLen)).length ≤ data.length := by rw [hlen]; omega
      have := take_spliceF cur.toList (u8v (l.take dLen)) off data.length hx1 (by rw [Array.length_toList]; exact hcs)
      rw [htk, hlen] at this
      rw [hlt]; exact this
def RdL (w : World) (v : Value) (ls : List (List UInt8)) : Prop :=
 (ls = [] ∧ (v = .slice none 0 0 ∨ ∃ a c, v = .slice (some a) 0 c)) ∨
 ∃ b off c, v = .slice (some ⟨b, off, none⟩) ls.length c ∧ ls.length ≤ c ∧ c ≤ maxLen ∧ ∀ j, (h : j < ls.length) → ∃ y z, w.cell? ⟨b, off + j, none⟩ = some (.slice y (ls[j]).length z) ∧ Rd w (.slice y (ls[j]).length z) ls[j]
theorem RdL.at {w : World} {a : Option Addr} {n c : Nat} {l : List (List UInt8)} (h : RdL w (.slice a n c) l) (j : Nat) (hj : j < l.length) : ∃ b off y z, a = some ⟨b, off, none⟩ ∧ w.cell? ⟨b, off + j, none⟩ = some (.slice y (l[j]).length z) ∧ Rd w (.slice y (l[j]).length z) l[j] := by
 rcases h with ⟨rfl, _⟩ | ⟨b, off, c', e, _, _, hc⟩
 ·simp at hj
 ·cases e
  obtain ⟨y, z, h1, h2⟩ := hc j hj
  exact ⟨b, off, y, z, rfl, h1, h2⟩
theorem OwBB.rdL {w : World} {base : Nat} {v : Value} {ls : List (List UInt8)} (h : OwBB w base v ls) : RdL w v ls := by
 obtain ⟨a, c, rfl⟩ := h.form
 obtain ⟨ps, e, h1, h2⟩ := h
 have h0 : OwBB w base (.slice a ls.length c) ls := ⟨ps, e, h1, h2⟩
 rcases h1.2 with ⟨e, hn⟩ | ⟨g, cap, cur, e, _, hg, hn, hm, hsz, htake⟩
 ·have : ls = [] := List.length_eq_zero_iff.1 hn
  subst this
  cases e
  exact .inl ⟨rfl, .inl rfl⟩
 ·cases e
  refine .inr ⟨g, 0, c, rfl, hn, hm, fun j hj => ?_⟩
  obtain ⟨g', y, z, e, hc, ho⟩ := h0.at j hj
  cases e
  exact ⟨y, z, by simpa using hc, ho.rd⟩
def blksW (f : Fsd) (s : List UInt8) : List (List UInt8) := if sizeE f s ≠ 0 then [] else (bloL f s).map fun n => nowD f.1 n.toNat
def headW (g : Nat) : List UInt8 := le4 g ++ List.replicate 124 0
def heldW (b : List UInt8) : Prop := genF b ≠ 0 ∧ b = headW (genF b)
instance (b : List UInt8) : Decidable (heldW b) := inferInstanceAs (Decidable (_ ∧ _))
abbrev Wl := List UInt8 × Nat × Nat × Nat × Nat × Nat
def wz : Wl := ([], 0, 0, 0, 0, 0)
def putsN (f : Fsd) (s : List UInt8) (at0 : Int) (l : List (List UInt8)) : Nat → Fsd × Int
 | 0 => (f, 0)
 | k + 1 => if (putsN f s at0 l k).2 ≠ 0 then putsN f s at0 l k else putFs (putsN f s at0 l k).1 s (at0 + k) (l.getD k [])
def putsFs (f : Fsd) (s : List UInt8) (at0 : Int) (l : List (List UInt8)) : Fsd × Int := putsN f s at0 l l.length
theorem puts_stay {f : Fsd} {s : List UInt8} {at0 : Int} {l : List (List UInt8)} {k : Nat} (h : (putsN f s at0 l k).2 ≠ 0) : ∀ j, putsN f s at0 l (k + j) = putsN f s at0 l k
 | 0 => rfl
 | j + 1 => by
  have e := puts_stay h j
  rw [← Nat.add_assoc, putsN, e, if_pos h]
/-! ### blocks -/
theorem blks_map {f : Fsd} {s : List UInt8} (h : sizeE f s = 0) : blksW f s = (bloL f s).map fun n => nowD f.1 n.toNat := by
 unfold blksW; rw [if_neg (fun e => e h)]
theorem blks_len {f : Fsd} {s : List UInt8} (h : sizeE f s = 0) : (blksW f s).length = (bloL f s).length := by rw [blks_map h, List.length_map]
theorem blks_get {f : Fsd} {s : List UInt8} (h : sizeE f s = 0) {i : Nat} (hi : i < (blksW f s).length) (hi' : i < (bloL f s).length) : (blksW f s)[i] = nowD f.1 ((bloL f s)[i]).toNat := by
 simp only [blks_map h, List.getElem_map]
theorem blks_128 {f : Fsd} {s : List UInt8} : ∀ b ∈ blksW f s, b.length = 128 := by
 intro b hb
 by_cases h : sizeE f s = 0
 ·rw [blks_map h, List.mem_map] at hb
  obtain ⟨n, hn, rfl⟩ := hb
  have := blo_rng2 h n hn
  exact now_len (okFs_disk (size_ok h).1).1 (by omega)
 ·unfold blksW at hb; rw [if_pos h] at hb; cases hb
theorem blks_4096 (f : Fsd) (s : List UInt8) : (blksW f s).length ≤ 4096 := by
 by_cases h : sizeE f s = 0
 ·rw [blks_len h]
  obtain ⟨hok, l, hl⟩ := size_there h
  obtain ⟨k, hk, e⟩ := List.getElem_of_mem hl
  have h1 := sum_take f.2.2.1 k hk
  have h2 := sum_le hok k
  have h3 := sum_le hok (k + 1)
  rw [e] at h1
  have e2 : bloL f s = blocksX l := (file_in hok hl).2.2.2.1
  rw [e2]
  have h1 : sumS (List.take (k + 1) f.2.2.1) = sumS (List.take k f.2.2.1) + (blocksX l).length := h1
  omega
 ·unfold blksW; rw [if_pos h]; exact Nat.zero_le _
theorem size_blks {f : Fsd} {s : List UInt8} (h : sizeE f s = 0) : sizeN f s = (blksW f s).length := by rw [(size_ok h).2.2, blks_len h]
theorem get_blks {f : Fsd} {s : List UInt8} (h : sizeE f s = 0) {i : Nat} (hi : i < (blksW f s).length) : getE f s i = 0 ∧ getL f s i = (blksW f s)[i] := by
 have hi' : i < (bloL f s).length := by rw [← blks_len h]; exact hi
 obtain ⟨_, _, h1, h2⟩ := get_ok h hi'
 exact ⟨h1, by rw [h2, blks_get h hi hi']⟩
def pW (f : Fsd) (s : List UInt8) (at0 : Nat) (l : List (List UInt8)) : List Pu := (List.range l.length).map fun i => ((bloL f s).getD (at0 + i) 0, l.getD i [])
theorem pW_len (f : Fsd) (s : List UInt8) (at0 : Nat) (l : List (List UInt8)) : (pW f s at0 l).length = l.length := by simp [pW]
theorem pW_get (f : Fsd) (s : List UInt8) (at0 : Nat) (l : List (List UInt8)) (i : Nat) (hi : i < (pW f s at0 l).length) : (pW f s at0 l)[i] = ((bloL f s).getD (at0 + i) 0, l.getD i []) := by simp [pW]
def acW (ps : List Pu) : List Ac := ps.map fun p => (false, p)
theorem acW_len (ps : List Pu) : (acW ps).length = ps.length := by simp [acW]
theorem acW_take (ps : List Pu) (k : Nat) : (acW ps).take k = acW (ps.take k) := by simp [acW, List.map_take]
theorem pW_in {f : Fsd} {s : List UInt8} {at0 : Nat} {l : List (List UInt8)} (hs : sizeE f s = 0) (h128 : ∀ b ∈ l, b.length = 128) (hat : at0 + l.length ≤ (bloL f s).length) : ∀ p ∈ pW f s at0 l, putE (mny f.1) p = 0 ∧ 34 ≤ p.1 := by
 intro p hp
 unfold pW at hp
 obtain ⟨i, hi, rfl⟩ := List.mem_map.1 hp
 have hi : i < l.length := List.mem_range.1 hi
 have hi2 : at0 + i < (bloL f s).length := by omega
 have hr := blo_rng2 hs _ (List.getElem_mem hi2)
 have e1 : (bloL f s).getD (at0 + i) 0 = (bloL f s)[at0 + i] := by rw [List.getD_eq_getElem?_getD, List.getElem?_eq_getElem hi2]; rfl
 have e2 : l.getD i [] = l[i] := by rw [List.getD_eq_getElem?_getD, List.getElem?_eq_getElem hi]; rfl
 have hb := h128 _ (List.getElem_mem hi)
 refine ⟨?_, ?_⟩
 ·unfold putE
  rw [if_neg (by show ¬ ((bloL f s).getD (at0 + i) 0 < 0 ∨ _ ≤ (bloL f s).getD (at0 + i) 0); rw [e1]; omega), if_neg (by show ¬ (l.getD i []).length ≠ 128; rw [e2, hb]; simp)]
 ·show 34 ≤ (bloL f s).getD (at0 + i) 0
  rw [e1]; exact hr.1
def yW (f : Fsd) (ps : List Pu) : Fsd := (((f.1.1, f.1.2.1 ++ ps, f.1.2.2 ++ acW ps) : Dk), f.2)
theorem put_one {f : Fsd} {s : List UInt8} {i : Nat} {b : List UInt8} (hok : okFs f) (hs : sizeE f s = 0) (hi : i < (bloL f s).length) (hb : b.length = 128) (hW : f.1.2.1.length < 65536) (hA : f.1.2.2.length < 65536) :
  putFs f s i b = (yW f [((bloL f s)[i], b)], 0) ∧ okFs (yW f [((bloL f s)[i], b)]) := by
 obtain ⟨h1, h2, _, _⟩ := get_ok hs hi
 have hr := blo_rng2 hs _ (List.getElem_mem hi)
 have hac : actE (mny f.1) (false, (bloL f s)[i], b) = 0 := by
  unfold actE putE
  rw [if_neg (by simp), if_neg (by show ¬ ((bloL f s)[i] < 0 ∨ _ ≤ (bloL f s)[i]); omega), if_neg (by show ¬ b.length ≠ 128; rw [hb]; simp)]
 have hone : oneD f.1 (false, (bloL f s)[i], b) = some (yW f [((bloL f s)[i], b)]).1 := by
  unfold oneD
  rw [if_neg (by show ¬ (65536 ≤ f.1.2.2.length ∨ (false = false ∧ 65536 ≤ f.1.2.1.length)); omega), if_neg (by simp)]
  rfl
 have hdo : doD f.1 [(false, (bloL f s)[i], b)] 1 = ((yW f [((bloL f s)[i], b)]).1, 0) := by
  rw [do1 (okFs_disk hok).1 hac, hone]
 have e : putFs f s i b = (yW f [((bloL f s)[i], b)], 0) := by
  rw [put_is, if_neg (by rw [fsE_of hok]; simp), if_neg (by rw [h1]; simp), h2, hdo]
  simp [yW]
 refine ⟨e, ?_⟩
 have := (put_spec (f := f) (s := s) (i := i) (b := b) (by rw [e])).1
 rw [e] at this
 exact this
theorem yW_yW (f : Fsd) (a b : List Pu) : yW (yW f a) b = yW f (a ++ b) := by simp [yW, acW]
theorem yW_nil (f : Fsd) : yW f [] = f := by simp [yW, acW]
theorem putsN_is {f : Fsd} {s : List UInt8} {at0 : Nat} {l : List (List UInt8)} (hok : okFs f) (hs : sizeE f s = 0) (h128 : ∀ b ∈ l, b.length = 128) (hat : at0 + l.length ≤ (bloL f s).length) (hW : f.1.2.1.length + l.length ≤ 65536) (hA : f.1.2.2.length + l.length ≤ 65536) :
  ∀ k, k ≤ l.length → putsN f s at0 l k = (yW f ((pW f s at0 l).take k), 0) ∧ okFs (yW f ((pW f s at0 l).take k))
 | 0, _ => by rw [List.take_zero, yW_nil]; exact ⟨rfl, hok⟩
 | k + 1, hk => by
  obtain ⟨h1, h2⟩ := putsN_is hok hs h128 hat hW hA k (by omega)
  have hpl := pW_len f s at0 l
  have hd : (yW f ((pW f s at0 l).take k)).2.2.1 = f.2.2.1 := rfl
  have hsy : sizeE (yW f ((pW f s at0 l).take k)) s = 0 := by rw [size_dir hd hok h2]; exact hs
  have hby : bloL (yW f ((pW f s at0 l).take k)) s = bloL f s := (blo_dir hd s).1
  have htk : ((pW f s at0 l).take k).length = k := by rw [List.length_take, hpl]; omega
  have hi : at0 + k < (bloL (yW f ((pW f s at0 l).take k)) s).length := by rw [hby]; omega
  have hb : (l.getD k []).length = 128 := by
   have hk' : k < l.length := by omega
   rw [List.getD_eq_getElem?_getD, List.getElem?_eq_getElem hk']; exact h128 _ (List.getElem_mem hk')
  obtain ⟨p1, p2⟩ := put_one (b := l.getD k []) h2 hsy hi hb (by show (f.1.2.1 ++ _).length < 65536; rw [List.length_append, htk]; omega) (by show (f.1.2.2 ++ acW _).length < 65536; rw [List.length_append, acW_len, htk]; omega)
  have e : (pW f s at0 l).take (k + 1) = (pW f s at0 l).take k ++ [((bloL (yW f ((pW f s at0 l).take k)) s)[at0 + k], l.getD k [])] := by
   rw [List.take_succ_eq_append_getElem (by omega), pW_get]
   congr 2
   have h9 : at0 + k < (bloL f s).length := by omega
   refine Prod.ext ?_ rfl
   simp only [hby]
   rw [List.getD_eq_getElem?_getD, List.getElem?_eq_getElem h9]; rfl
  rw [yW_yW, ← e] at p1 p2
  refine ⟨?_, p2⟩
  rw [putsN, h1, if_neg (by simp)]
  have ei : (at0 : Int) + (k : Nat) = ((at0 + k : Nat) : Int) := by omega
  rw [ei]
  exact p1
theorem kept_all : ∀ (l : List Pu), kept l (List.replicate l.length true) = l
 | [] => rfl
 | p :: l => by rw [List.length_cons, List.replicate_succ]; simp only [kept, kept_all l]; rfl
end Go.Proofs.YtmeaiocohalphaaGreatDoor
