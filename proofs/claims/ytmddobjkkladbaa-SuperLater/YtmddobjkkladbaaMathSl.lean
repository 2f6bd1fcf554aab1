/-
  Plain mathematics: where a superblock of the next gen is written, the latest one is that; where it is not, that of before.
-/
import Derived.Test.YtmddobjkkladbaaL2c
import Derived.Test.YtmddobjkkladbaaMathSp
namespace Go.Proofs.Ytmddobjkkladbaa
open Go.RowKit
set_option linter.unusedVariables false
set_option linter.unusedSimpArgs false

theorem latestS_ok {d : Dk} {gen was : Nat} (h : latestS d = (gen, was, 0)) : okD d = true ∧ 34 < mny d ∧ gen ≠ 0 ∧ bestS d = (gen, was) := by
  unfold latestS at h
  split at h
  · rename_i c
    have := congrArg (fun x => x.2.2) h
    exact absurd this c
  · rename_i c1
    split at h
    · cases h
    · split at h
      · cases h
      · rename_i c2 c3
        injection h with h1 h2
        injection h2 with h2 h3
        refine ⟨ok_of_chk (by omega), by omega, by rw [← h1]; exact c3, ?_⟩
        exact Prod.ext h1 h2
theorem latestS_of {d : Dk} {gen was : Nat} (hok : okD d = true) (hm : 34 < mny d) (hg : gen ≠ 0) (hb : bestS d = (gen, was)) : latestS d = (gen, was, 0) := by
  unfold latestS
  rw [if_neg (by rw [chk_ok hok]; simp), if_neg (by omega), hb, if_neg hg]
theorem latestS_data {d d' : Dk} (h : d'.1 = d.1) (hok : okD d = true) (hok' : okD d' = true) : latestS d' = latestS d := by
  have hb : bestS d' = bestS d := by unfold bestS lastS; rw [h]
  have hm : mny d' = mny d := by unfold mny; rw [h]
  unfold latestS
  rw [hb, hm, chk_ok hok, chk_ok hok']
theorem lastS_par (d : Dk) (n : Nat) : (lastS d n).1 = 0 ∨ (lastS d n).1 % 2 = n := by
  unfold lastS
  split
  · rename_i h; exact .inr h
  · exact .inl rfl
theorem laterS_or (a b : Nat × Nat) : laterS a b = a ∨ laterS a b = b := by
  unfold laterS
  split
  · exact .inr rfl
  · exact .inl rfl
/-- The latest one stands in its own slot. -/
theorem bestS_slot {d : Dk} {gen was : Nat} (h : bestS d = (gen, was)) (hg : gen ≠ 0) : lastS d (gen % 2) = (gen, was) := by
  have p0 := lastS_par d 0
  have p1 := lastS_par d 1
  unfold bestS at h
  rcases laterS_or (laterS (0, 0) (lastS d 0)) (lastS d 1) with e | e
  · rw [e] at h
    rcases laterS_or (0, 0) (lastS d 0) with e | e
    · rw [e] at h
      exact absurd (congrArg Prod.fst h).symm hg
    · rw [e] at h
      rw [h] at p0
      have : gen % 2 = 0 := by
        rcases p0 with p0 | p0
        · exact absurd p0 hg
        · exact p0
      rw [this]; exact h
  · rw [e] at h
    rw [h] at p1
    have : gen % 2 = 1 := by
      rcases p1 with p1 | p1
      · exact absurd p1 hg
      · exact p1
    rw [this]; exact h
theorem best_of {d : Dk} {gen was size : Nat} (h1 : lastS d (gen % 2) = (gen, was)) (h2 : lastS d ((gen + 1) % 2) = (gen + 1, size)) : bestS d = (gen + 1, size) := by
  unfold bestS laterS
  rcases (by omega : gen % 2 = 0 ∧ (gen + 1) % 2 = 1 ∨ gen % 2 = 1 ∧ (gen + 1) % 2 = 0) with ⟨e1, e2⟩ | ⟨e1, e2⟩
  · rw [e1] at h1
    rw [e2] at h2
    rw [h1, h2]
    by_cases hg : 0 < gen
    · rw [if_pos (show (0, 0).1 < (gen, was).1 from hg), if_pos (show (gen, was).1 < (gen + 1, size).1 by show gen < gen + 1; omega)]
    · rw [if_neg (show ¬ (0, 0).1 < (gen, was).1 from hg), if_pos (show (0, 0).1 < (gen + 1, size).1 by show 0 < gen + 1; omega)]
  · rw [e1] at h1
    rw [e2] at h2
    rw [h1, h2, if_pos (show (0, 0).1 < (gen + 1, size).1 by show 0 < gen + 1; omega), if_neg (show ¬ (gen + 1, size).1 < (gen, was).1 by show ¬ gen + 1 < gen; omega)]
/-- Where a superblock of the next gen lasts in its slot it is the latest one. -/
theorem later_write {d d' : Dk} {gen was : Nat} {size : Int} (h : latestS d = (gen, was, 0)) (hg : gen + 1 < 4294967296) (hB : (blockS (gen + 1) size).2 = 0) (he : d'.1 = setBs d.1 [((((gen + 1) % 2 : Nat) : Int), (blockS (gen + 1) size).1)]) (hok' : okD d' = true) : latestS d' = (gen + 1, size.toNat, 0) := by
  obtain ⟨hok, hm, h0, hb⟩ := latestS_ok h
  have hl := blockS_len hB
  obtain ⟨hlen, -, -, -⟩ := (okD_iff d).1 hok
  have hl1 : d.1.length = 128 * mny d := by unfold mny; omega
  have hp : ∀ p ∈ [((((gen + 1) % 2 : Nat) : Int), (blockS (gen + 1) size).1)], 0 ≤ p.1 ∧ 128 * p.1.toNat + 128 ≤ d.1.length ∧ p.2.length = 128 := fun p hp => by
    rw [List.mem_singleton.1 hp]
    refine ⟨by show (0 : Int) ≤ (((gen + 1) % 2 : Nat) : Int); omega, ?_, hl⟩
    show 128 * ((((gen + 1) % 2 : Nat) : Int)).toNat + 128 ≤ d.1.length
    omega
  have hm' : mny d' = mny d := by unfold mny; rw [he, setBs_len d.1 _ d.1 rfl hp]
  have hbl : ∀ n : Nat, blk d'.1 n = if (((gen + 1) % 2 : Nat) : Int) = (n : Int) then (blockS (gen + 1) size).1 else blk d.1 n := fun n => by
    rw [he, blk_setBs d.1 n _ d.1 rfl hp]
    show (if (((gen + 1) % 2 : Nat) : Int) = (n : Int) then some (blockS (gen + 1) size).1 else none).getD _ = _
    split <;> rfl
  have q1 : lastS d' (gen % 2) = (gen, was) := by
    have hb1 : blk d'.1 (gen % 2) = blk d.1 (gen % 2) := by rw [hbl, if_neg (by omega)]
    rw [← bestS_slot hb h0]
    unfold lastS
    rw [hb1]
  have q2 : lastS d' ((gen + 1) % 2) = (gen + 1, size.toNat) := by
    have hb1 : blk d'.1 ((gen + 1) % 2) = (blockS (gen + 1) size).1 := by rw [hbl, if_pos rfl]
    unfold lastS
    rw [hb1, ofS_block hg hB]
    rw [if_pos rfl]
  exact latestS_of hok' (by omega) (by omega) (best_of q1 q2)
/-- A superblock is written into a slot of a disk that has one: it waits, or the disk is full. -/
theorem later_put {d : Dk} {n : Nat} {b : List UInt8} (hok : okD d = true) (hm : 34 < mny d) (hw : d.2.1 = []) (hn : n < 2) (hb : b.length = 128) :
    (doD d [(false, (n : Int), b)] 1 = (dz, 9)) ∨ ∃ x, doD d [(false, (n : Int), b)] 1 = (x, 0) ∧ okD x = true ∧ x.1 = d.1 ∧ x.2.1 = [((n : Int), b)] := by
  have ha : ∀ a ∈ [((false, (n : Int), b) : Ac)], actE (mny d) a = 0 := fun a ha => by
    rw [List.mem_singleton.1 ha]
    show putE (mny d) ((n : Int), b) = 0
    unfold putE
    rw [if_neg (by show ¬ ((n : Int) < 0 ∨ (mny d : Int) ≤ (n : Int)); omega), if_neg (by show ¬ b.length ≠ 128; omega)]
  cases hx : onesD d ([((false, (n : Int), b) : Ac)].take 1) with
  | some x =>
    right
    refine ⟨x, doD_of (m := 1) hok ha (by simp) hx, ?_⟩
    have h1 := ones_one hx
    obtain ⟨k1, k2, k3⟩ := okD_one hok (ha _ (List.mem_singleton.2 rfl)) h1
    refine ⟨k1, ?_⟩
    unfold oneD at h1
    split at h1
    · cases h1
    · rw [if_neg (by simp)] at h1
      cases h1
      exact ⟨rfl, by show d.2.1 ++ [((n : Int), b)] = _; rw [hw]; rfl⟩
  | none =>
    left
    unfold doD
    rw [if_neg (by rw [chk_ok hok]; simp), if_neg (by rw [firstE_take _ _ ha]; simp), if_neg (by simp)]
    show (match onesD d ([((false, (n : Int), b) : Ac)].take 1) with | none => (dz, (9 : Int)) | some x => (x, 0)) = _
    rw [hx]
/-- All that may come of it. -/
theorem later_all {d : Dk} {gen was : Nat} {size : Int} (K : List Bool) (h : latestS d = (gen, was, 0)) (hw : d.2.1 = []) (hg : gen + 1 < 4294967296) (hB : (blockS (gen + 1) size).2 = 0) :
    ∃ x y z, doD d [(false, (((gen + 1) % 2 : Nat) : Int), (blockS (gen + 1) size).1)] 1 = x ∧ crashD x.1 K = y ∧ doD x.1 [(true, 0, [])] 1 = z ∧
      (x.2 = 9 ∧ y.2 = 20 ∧ z.2 = 20 ∨ x.2 = 0 ∧ y.2 = 0 ∧ z.2 = 9 ∨ x.2 = 0 ∧ y.2 = 0 ∧ z.2 = 0 ∧ latestS z.1 = (gen + 1, size.toNat, 0) ∧ latestS y.1 = if K.head? = some true then (gen + 1, size.toNat, 0) else (gen, was, 0)) := by
  obtain ⟨hok, hm, h0, hb⟩ := latestS_ok h
  refine ⟨_, _, _, rfl, rfl, rfl, ?_⟩
  rcases later_put (b := (blockS (gen + 1) size).1) hok hm hw (show (gen + 1) % 2 < 2 by omega) (blockS_len hB) with hx | ⟨x, hx, x1, x2, x3⟩
  · left
    rw [hx]
    exact ⟨rfl, rfl, rfl⟩
  · rw [hx]
    right
    have hcr : (crashD x K).2 = 0 := by unfold crashD; rw [if_neg (by rw [chk_ok x1]; simp)]
    by_cases hz : (doD x [(true, 0, [])] 1).2 = 0
    · right
      refine ⟨rfl, hcr, hz, ?_, ?_⟩
      · obtain ⟨_, ha, _, _, z, hz1, hz2⟩ := doD_ok hz
        have h1 := ones_one hz1
        obtain ⟨k1, k2, k3⟩ := okD_one x1 (by rfl) h1
        rw [hz2]
        refine later_write h hg hB ?_ k1
        unfold oneD at h1
        split at h1
        · cases h1
        · rw [if_pos rfl] at h1
          cases h1
          show setBs x.1 x.2.1 = _
          rw [x2, x3]
      · obtain ⟨c1, c2⟩ := crash_ok K x1
        have hcx : (crashD x K).1 = (setBs x.1 (kept x.2.1 K), [], []) := by unfold crashD; rw [if_neg (by rw [chk_ok x1]; simp)]
        show latestS (crashD x K).1 = _
        rw [hcx]
        match K, c1 with
        | [], c1 =>
          rw [if_neg (by simp), ← h]
          refine latestS_data ?_ hok c1
          show setBs x.1 (kept x.2.1 []) = d.1
          rw [x3, x2]; rfl
        | false :: K, c1 =>
          rw [if_neg (by simp), ← h]
          refine latestS_data ?_ hok c1
          show setBs x.1 (kept x.2.1 (false :: K)) = d.1
          have : kept x.2.1 (false :: K) = [] := by rw [x3]; cases K <;> rfl
          rw [this, x2]; rfl
        | true :: K, c1 =>
          rw [if_pos (by simp)]
          refine later_write h hg hB ?_ c1
          show setBs x.1 (kept x.2.1 (true :: K)) = _
          have : kept x.2.1 (true :: K) = [((((gen + 1) % 2 : Nat) : Int), (blockS (gen + 1) size).1)] := by rw [x3]; cases K <;> rfl
          rw [this, x2]
    · left
      exact ⟨rfl, hcr, sync_err x1 hz⟩

end Go.Proofs.Ytmddobjkkladbaa
