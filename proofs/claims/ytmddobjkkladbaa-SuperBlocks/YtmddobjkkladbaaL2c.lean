/-
  Plain mathematics for the statements of layer 2: what acts leave.
-/
import Derived.Test.YtmddobjkkladbaaLCrash
namespace Go.Proofs.Ytmddobjkkladbaa
open Go.RowKit
set_option linter.unusedVariables false
set_option linter.unusedSimpArgs false

theorem chk_ok {d : Dk} (h : okD d = true) : chk d = 0 := by unfold chk; rw [h]; rfl
theorem ok_of_chk {d : Dk} (h : chk d = 0) : okD d = true := by
  rcases chk_cases d with ⟨h1, _⟩ | ⟨_, h2⟩
  · exact h1
  · rw [h2] at h; cases h
theorem okD_one {d d' : Dk} {a : Ac} (h : okD d = true) (ha : actE (mny d) a = 0) (he : oneD d a = some d') : okD d' = true ∧ mny d' = mny d ∧ d'.2.2 = d.2.2 ++ [a] := by
  obtain ⟨hf, h1, h2⟩ := Fine.of_ok h
  obtain ⟨hf', hd⟩ := hf.one ha he
  have hm : mny d' = mny d := by have := hf'.1; unfold mny at *; omega
  refine ⟨?_, hm, hd⟩
  obtain ⟨g1, _, _, _, _, _, g7⟩ := (okD_iff d).1 h
  rw [okD_iff, hm]
  refine ⟨by have := hf'.1; omega, h1, h2, hf'.2.1, hf'.2.2.1, hf'.2.2.2, fun b hb => ?_⟩
  rw [hd] at hb
  rcases List.mem_append.1 hb with h | h
  · exact g7 b h
  · rw [List.mem_singleton.1 h]; exact ha
theorem okD_ones : ∀ (l : List Ac) (d d' : Dk), okD d = true → (∀ a ∈ l, actE (mny d) a = 0) → onesD d l = some d' → okD d' = true ∧ mny d' = mny d ∧ d'.2.2 = d.2.2 ++ l
  | [], d, d', h, _, he => by cases he; exact ⟨h, rfl, by simp⟩
  | a :: l, d, d', h, ha, he => by
    have e : onesD d (a :: l) = (match oneD d a with | none => none | some x => onesD x l) := rfl
    rw [e] at he
    cases e1 : oneD d a with
    | none => rw [e1] at he; cases he
    | some x =>
      rw [e1] at he
      obtain ⟨h1, h2, h3⟩ := okD_one h (ha a (List.mem_cons_self ..)) e1
      obtain ⟨k1, k2, k3⟩ := okD_ones l x d' h1 (fun b hb => by rw [h2]; exact ha b (List.mem_cons_of_mem _ hb)) he
      exact ⟨k1, k2.trans h2, by rw [k3, h3]; simp⟩
theorem onesD_append (l' : List Ac) : ∀ (l : List Ac) (d : Dk), onesD d (l ++ l') = (onesD d l).bind (fun x => onesD x l')
  | [], d => rfl
  | a :: l, d => by
    show (match oneD d a with | none => none | some x => onesD x (l ++ l')) = (match oneD d a with | none => none | some x => onesD x l).bind _
    cases e : oneD d a with
    | none => rfl
    | some x => exact onesD_append l' l x
theorem doD_err {d : Dk} {l : List Ac} {m : Int} (h : (doD d l m).2 ≠ 0) : (doD d l m).1 = dz := by
  unfold doD at *
  split
  · rfl
  · split
    · rfl
    · split
      · rfl
      · rename_i h1 h2 h3
        rw [if_neg h1, if_neg h2, if_neg h3] at h
        split
        · rfl
        · rename_i x hx; rw [hx] at h; exact absurd rfl h
theorem doD_ok {d : Dk} {l : List Ac} {m : Int} (h : (doD d l m).2 = 0) : okD d = true ∧ (∀ a ∈ l, actE (mny d) a = 0) ∧ 0 ≤ m ∧ m ≤ l.length ∧ ∃ x, onesD d (l.take m.toNat) = some x ∧ doD d l m = (x, 0) := by
  unfold doD at *
  split at h
  · rename_i h1; exact absurd h h1
  · rename_i h1
    split at h
    · rename_i h2; exact absurd h h2
    · rename_i h2
      split at h
      · cases h
      · rename_i h3
        have hz : firstE (mny d) l = 0 := Classical.byContradiction fun e => h2 e
        refine ⟨ok_of_chk (Classical.byContradiction fun e => h1 e), firstE_zero _ _ hz, by omega, by omega, ?_⟩
        rw [if_neg h1, if_neg h2, if_neg h3]
        cases hx : onesD d (l.take m.toNat) with
        | none => rw [hx] at h; cases h
        | some x => exact ⟨x, rfl, by simp only⟩
theorem doD_of {d : Dk} {l : List Ac} {m : Nat} {x : Dk} (h : okD d = true) (ha : ∀ a ∈ l, actE (mny d) a = 0) (hm : m ≤ l.length) (hx : onesD d (l.take m) = some x) : doD d l m = (x, 0) := by
  unfold doD
  rw [if_neg (by rw [chk_ok h]; simp), if_neg (by rw [firstE_take _ _ ha]; simp), if_neg (by omega), Int.toNat_natCast, hx]
theorem blockD_ok {d : Dk} {n : Nat} (h : okD d = true) (hn : n < mny d) : blockD d n = (lastP n d.2.1).getD (blk d.1 n) := by
  unfold blockD readD
  rw [if_neg (by rw [chk_ok h]; simp), if_neg (by omega)]
  rfl
/-- Behind a sync each block is as it was. -/
theorem block_sync {d d' : Dk} {a : Ac} {n : Nat} (h : okD d = true) (ha : actE (mny d) a = 0) (hs : a.1 = true) (he : oneD d a = some d') (hn : n < mny d) : blockD d' n = blockD d n ∧ d'.2.1 = [] := by
  obtain ⟨h1, h2, _⟩ := okD_one h ha he
  obtain ⟨hf, _, _⟩ := Fine.of_ok h
  unfold oneD at he
  split at he
  · cases he
  · try rw [if_pos hs] at he
    cases he
    refine ⟨?_, rfl⟩
    rw [blockD_ok h1 (by rw [h2]; exact hn), blockD_ok h hn]
    show blk (setBs d.1 d.2.1) n = _
    rw [blk_setBs d.1 n d.2.1 d.1 rfl (fun p hp => by
      have := putE_ok (hf.2.2.2 p hp)
      have := hf.1
      omega)]
theorem block_write {d d' : Dk} {N : Int} {b : List UInt8} {n : Nat} (h : okD d = true) (ha : actE (mny d) (false, N, b) = 0) (he : oneD d (false, N, b) = some d') (hn : n < mny d) : blockD d' n = if (n : Int) = N then b else blockD d n := by
  obtain ⟨h1, h2, _⟩ := okD_one h ha he
  unfold oneD at he
  split at he
  · cases he
  · try rw [if_neg (by simp)] at he
    cases he
    rw [blockD_ok h1 (by rw [h2]; exact hn), blockD_ok h hn]
    show (lastP n (d.2.1 ++ [(N, b)])).getD (blk d.1 n) = _
    rw [lastP_snoc]
    split <;> rfl
theorem sync_err {d : Dk} (h : okD d = true) (he : (doD d [(true, 0, [])] 1).2 ≠ 0) : (doD d [(true, 0, [])] 1).2 = 9 := by
  have ha : ∀ a ∈ [((true, 0, []) : Ac)], actE (mny d) a = 0 := fun a ha => by rw [List.mem_singleton.1 ha]; rfl
  cases hx : onesD d ([((true, 0, []) : Ac)].take 1) with
  | some x =>
    have e : doD d [(true, 0, [])] 1 = (x, 0) := doD_of (m := 1) h ha (by simp) hx
    rw [e] at he; exact absurd rfl he
  | none =>
    unfold doD
    rw [if_neg (by rw [chk_ok h]; simp), if_neg (by rw [firstE_take _ _ ha]; simp), if_neg (by simp)]
    show (match onesD d ([((true, 0, []) : Ac)].take 1) with | none => (dz, (9 : Int)) | some x => (x, 0)).2 = 9
    rw [hx]
theorem crash_done {d : Dk} (K : List Bool) (h : okD d = true) (hw : d.2.1 = []) : crashD d K = ((d.1, [], []), 0) := by
  unfold crashD
  rw [if_neg (by rw [chk_ok h]; simp), hw]
  have : kept [] K = [] := by cases K <;> rfl
  rw [this]; rfl
theorem ones_one {d x : Dk} {a : Ac} (h : onesD d ([a].take 1) = some x) : oneD d a = some x := by
  have e : onesD d ([a].take 1) = (match oneD d a with | none => none | some x => some x) := rfl
  rw [e] at h
  cases e1 : oneD d a with
  | none => rw [e1] at h; cases h
  | some y => rw [e1] at h; exact h

end Go.Proofs.Ytmddobjkkladbaa
