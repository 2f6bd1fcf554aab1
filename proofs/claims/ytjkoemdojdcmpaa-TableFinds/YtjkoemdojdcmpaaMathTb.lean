/-
  Plain mathematics of package table (layer 14): entries cut into blocks, a table's bytes, what is built and read. No program is named here.
-/
import Derived.Test.YtjkoemdojdcmpaaMathBk
import Derived.Test.YtjkoemdojdcmpaaMathSp
namespace Go.Proofs.Ytjkoemdojdcmpaa
open Go.RowKit
set_option linter.unusedVariables false
set_option linter.unusedSimpArgs false

def growT (l : List Ent) : Nat → Nat → Nat
  | 0, n => n
  | f + 1, n => if n < l.length ∧ (blkK (l.take (n + 1))).length ≤ 1024 then growT l f (n + 1) else n
def fitN (l : List Ent) : Nat := growT l l.length 1
theorem grow_step {l : List Ent} {f n : Nat} (h1 : n < l.length) (h2 : (blkK (l.take (n + 1))).length ≤ 1024) : growT l (f + 1) n = growT l f (n + 1) := by rw [growT, if_pos ⟨h1, h2⟩]
theorem grow_stop {l : List Ent} {n : Nat} (h : ¬ (n < l.length ∧ (blkK (l.take (n + 1))).length ≤ 1024)) : ∀ f, growT l f n = n
  | 0 => rfl
  | f + 1 => by rw [growT, if_neg h]
theorem grow_le {l : List Ent} : ∀ (f n : Nat), n ≤ l.length → n ≤ growT l f n ∧ growT l f n ≤ l.length ∧ (growT l f n = n ∨ (blkK (l.take (growT l f n))).length ≤ 1024)
  | 0, n, h => ⟨Nat.le_refl _, h, .inl rfl⟩
  | f + 1, n, h => by
    rw [growT]
    split
    · rename_i hc
      obtain ⟨h1, h2, h3⟩ := grow_le f (n + 1) hc.1
      refine ⟨by omega, h2, .inr ?_⟩
      rcases h3 with h3 | h3
      · rw [h3]; exact hc.2
      · exact h3
    · exact ⟨Nat.le_refl _, h, .inl rfl⟩
theorem fit_go {l : List Ent} {n : Nat} (h0 : fitN l = growT l (l.length + 1 - n) n) (h1 : n < l.length) (h2 : (blkK (l.take (n + 1))).length ≤ 1024) : fitN l = growT l (l.length + 1 - (n + 1)) (n + 1) := by
  rw [h0, show l.length + 1 - n = (l.length + 1 - (n + 1)) + 1 by omega, grow_step h1 h2]
theorem fit_end {l : List Ent} {n : Nat} (h0 : fitN l = growT l (l.length + 1 - n) n) (h : ¬ (n < l.length ∧ (blkK (l.take (n + 1))).length ≤ 1024)) : fitN l = n := by rw [h0, grow_stop h]
theorem fit_pos {l : List Ent} (h : 0 < l.length) : 1 ≤ fitN l ∧ fitN l ≤ l.length := by
  obtain ⟨h1, h2, _⟩ := grow_le (l := l) l.length 1 h
  exact ⟨h1, h2⟩
theorem blk_take (l : List Ent) (k : Nat) (h : k < l.length) : (blkK (l.take (k + 1))).length = (sm (k + 1)).length + ((entsB zE (l.take k)).length + (entB ((l.take k).getLastD zE).1 l[k]).length) := by
  unfold blkK
  rw [entsB_take zE l k h, List.length_append, List.length_append, List.length_take, Nat.min_eq_left (by omega)]
theorem ents_one (l : List Ent) (h : 0 < l.length) : (entsB zE (l.take 1)).length = (entB [] l[0]).length := by
  rw [entsB_take zE l 0 h]; simp [entsB, zE]
theorem blk_one (l : List Ent) (h : 0 < l.length) (ho : entOk l[0] = true) : (blkK (l.take 1)).length ≤ 1024 := by
  rw [blk_take l 0 h]
  have := entB_len ((l.take 0).getLastD zE).1 ho
  have h1 : (sm (0 + 1)).length ≤ 10 := sm_len_le10 (by omega)
  simp only [List.take_zero, entsB, List.length_nil] at this ⊢
  omega
theorem fit_len {l : List Ent} (h : 0 < l.length) (ho : entOk l[0] = true) : (blkK (l.take (fitN l))).length ≤ 1024 := by
  obtain ⟨_, _, h3⟩ := grow_le (l := l) l.length 1 h
  rcases h3 with h3 | h3
  · unfold fitN; rw [h3]; exact blk_one l h ho
  · exact h3
theorem chS_drop {l : List Ent} (h : chS zE l = true) (k : Nat) : chS zE (l.drop k) = true := by
  have e : l = l.take k ++ l.drop k := (List.take_append_drop _ _).symm
  have h2 := h
  rw [e, chS_append, Bool.and_eq_true] at h2
  have h3 := h2.2
  cases hd : l.drop k with
  | nil => rfl
  | cons x r =>
    rw [hd] at h3
    simp only [chS, Bool.and_eq_true] at h3 ⊢
    exact ⟨⟨h3.1.1, ahd_zE h3.1.1⟩, h3.2⟩

def pcuT : Nat → List Ent → List (List Ent)
  | 0, _ => []
  | f + 1, l => if l.length = 0 then [] else l.take (fitN l) :: pcuT f (l.drop (fitN l))
def pcsT (l : List Ent) : List (List Ent) := pcuT l.length l
theorem cuts_next {f : Nat} {l : List Ent} (hl : 0 < l.length) (hf : l.length ≤ f) : ∃ g, pcuT f l = l.take (fitN l) :: pcuT g (l.drop (fitN l)) ∧ (l.drop (fitN l)).length ≤ g := by
  cases f with
  | zero => omega
  | succ f =>
    refine ⟨f, by rw [pcuT, if_neg (by omega)], ?_⟩
    have := fit_pos hl
    rw [List.length_drop]; omega
theorem cuts_nil (f : Nat) {l : List Ent} (h : l.length = 0) : pcuT f l = [] := by
  cases f with
  | zero => rfl
  | succ f => rw [pcuT, if_pos h]
theorem cuts_join : ∀ (f : Nat) (l : List Ent), l.length ≤ f → (pcuT f l).flatten = l
  | 0, l, h => by
    obtain rfl := List.length_eq_zero_iff.1 (show l.length = 0 by omega)
    rfl
  | f + 1, l, h => by
    rw [pcuT]
    by_cases h0 : l.length = 0
    · rw [if_pos h0]; obtain rfl := List.length_eq_zero_iff.1 h0; rfl
    · rw [if_neg h0, List.flatten_cons, cuts_join f _ (by have := fit_pos (l := l) (by omega); rw [List.length_drop]; omega), List.take_append_drop]
theorem cuts_len : ∀ (f : Nat) (l : List Ent), (pcuT f l).length ≤ l.length
  | 0, l => Nat.zero_le _
  | f + 1, l => by
    rw [pcuT]
    by_cases h0 : l.length = 0
    · rw [if_pos h0]; exact Nat.zero_le _
    · rw [if_neg h0, List.length_cons]
      have h1 := cuts_len f (l.drop (fitN l))
      have := fit_pos (l := l) (by omega)
      rw [List.length_drop] at h1; omega
def PtOk (p : List Ent) : Prop := wrKE p = 0 ∧ (blkK p).length ≤ 1024
theorem PtOk.wr {p : List Ent} (h : PtOk p) : wrKL p = blkK p := (wrK_ok h.1).2.2.2.2
theorem PtOk.len {p : List Ent} (h : PtOk p) : 1 ≤ p.length ∧ p.length ≤ 1024 := ⟨(wrK_ok h.1).1, (wrK_ok h.1).2.1⟩
theorem PtOk.ch {p : List Ent} (h : PtOk p) : chS zE p = true := (wrK_ok h.1).2.2.1
theorem PtOk.last {p : List Ent} (h : PtOk p) : (p.getLastD zE).1.length ≤ 64 := by
  have h1 := h.len
  have e : p.getLastD zE ∈ p := by
    rcases List.eq_nil_or_concat p with rfl | ⟨q, x, rfl⟩
    · simp at h1
    · rw [List.concat_eq_append, List.getLastD_concat]; simp
  exact (entOk_sz (chS_ent h.ch _ e)).2.1
theorem fit_ok {l : List Ent} (h : 0 < l.length) (hm : l.length ≤ 1024) (hc : chS zE l = true) : PtOk (l.take (fitN l)) := by
  have h1 := fit_pos h
  have h2 := fit_len h (chS_ent hc _ (List.getElem_mem h))
  refine ⟨(wrK_fine ?_ (chS_part zE l _ hc) (by omega)).1, h2⟩
  rw [List.length_take]; omega
theorem cuts_ok : ∀ (f : Nat) (l : List Ent), l.length ≤ 1024 → chS zE l = true → ∀ p ∈ pcuT f l, PtOk p
  | 0, l, _, _, p, hp => by cases hp
  | f + 1, l, hm, hc, p, hp => by
    rw [pcuT] at hp
    by_cases h0 : l.length = 0
    · rw [if_pos h0] at hp; cases hp
    · rw [if_neg h0] at hp
      rcases List.mem_cons.1 hp with rfl | hp
      · exact fit_ok (by omega) hm hc
      · exact cuts_ok f _ (by rw [List.length_drop]; omega) (chS_drop hc _) p hp
def bodT (ps : List (List Ent)) : List UInt8 := ps.flatMap blkK
def ix1 (p : List Ent) : List UInt8 := tx (p.getLastD zE).1 ++ sm (blkK p).length
def ixT (ps : List (List Ent)) : List UInt8 := ps.flatMap ix1
theorem bod_snoc (ps : List (List Ent)) (p : List Ent) : bodT (ps ++ [p]) = bodT ps ++ blkK p := by simp [bodT]
theorem ix_snoc (ps : List (List Ent)) (p : List Ent) : ixT (ps ++ [p]) = ixT ps ++ (tx (p.getLastD zE).1 ++ sm (blkK p).length) := by simp [ixT, ix1]
theorem bod_cons (p : List Ent) (ps : List (List Ent)) : bodT (p :: ps) = blkK p ++ bodT ps := by simp [bodT]
theorem ix_cons (p : List Ent) (ps : List (List Ent)) : ixT (p :: ps) = tx (p.getLastD zE).1 ++ (sm (blkK p).length ++ ixT ps) := by simp [ixT, ix1]
theorem bod_len : ∀ (ps : List (List Ent)), (∀ p ∈ ps, PtOk p) → (bodT ps).length ≤ 1024 * ps.length
  | [], _ => by simp [bodT]
  | p :: ps, h => by
    have := bod_len ps (fun q hq => h q (List.mem_cons_of_mem _ hq))
    have h1 := (h p (List.mem_cons_self ..)).2
    rw [bod_cons, List.length_append, List.length_cons]; omega
theorem ix_len : ∀ (ps : List (List Ent)), (∀ p ∈ ps, PtOk p) → (ixT ps).length ≤ 100 * ps.length
  | [], _ => by simp [ixT]
  | p :: ps, h => by
    have := ix_len ps (fun q hq => h q (List.mem_cons_of_mem _ hq))
    have h1 := (h p (List.mem_cons_self ..))
    have h2 := tx_lenB (p.getLastD zE).1 (by have := h1.last; omega)
    have h3 := sm_len_le10 (n := (blkK p).length) (by have := h1.2; omega)
    have h4 := h1.last
    rw [ix_cons, List.length_append, List.length_append, List.length_cons]; omega
def cptF : List UInt8 → List (List UInt8) → List (List UInt8)
  | _, [] => []
  | a, y :: l => if y = a then cptF a l else y :: cptF y l
def cpt : List (List UInt8) → List (List UInt8)
  | [] => []
  | x :: l => x :: cptF x l
theorem cptF_snoc : ∀ (l : List (List UInt8)) (a y : List UInt8), cptF a (l ++ [y]) = if (l.getLastD a) = y then cptF a l else cptF a l ++ [y]
  | [], a, y => by
    by_cases h : y = a
    · subst h; simp [cptF]
    · have h' : ¬ a = y := fun e => h e.symm
      simp [cptF, h, h']
  | x :: l, a, y => by
    simp only [List.cons_append, cptF, List.getLastD_cons]
    by_cases h : x = a
    · subst h
      simp only [if_pos rfl]
      exact cptF_snoc l x y
    · rw [if_neg h, if_neg h, cptF_snoc l x y]
      split <;> rfl
theorem cpt_snoc (l : List (List UInt8)) (y : List UInt8) (h : 0 < l.length) : cpt (l ++ [y]) = if l[l.length - 1]'(by omega) = y then cpt l else cpt l ++ [y] := by
  cases l with
  | nil => simp at h
  | cons x l =>
    have e : (x :: l)[(x :: l).length - 1]'(by simp) = l.getLastD x := by
      rw [← List.getLast_eq_getElem (by simp), List.getLast_eq_getLastD]
    rw [e, List.cons_append, cpt, cptF_snoc, cpt]
    split <;> rfl
theorem cpt_take (l : List (List UInt8)) (k : Nat) (h0 : 0 < k) (hk : k < l.length) : cpt (l.take (k + 1)) = if l[k - 1]'(by omega) = l[k] then cpt (l.take k) else cpt (l.take k) ++ [l[k]] := by
  have hl : (l.take k).length = k := by rw [List.length_take]; omega
  rw [List.take_succ_eq_append_getElem hk, cpt_snoc _ _ (by omega)]
  have e : (l.take k)[(l.take k).length - 1]'(by omega) = l[k - 1]'(by omega) := by
    simp only [List.getElem_take, hl]
  rw [e]
theorem cpt_one (l : List (List UInt8)) (h : 0 < l.length) : cpt (l.take 1) = [l[0]] := by
  cases l with
  | nil => simp at h
  | cons x l => simp [cpt, cptF]
theorem cptF_sub : ∀ (l : List (List UInt8)) (a : List UInt8), (cptF a l).Sublist l
  | [], a => .slnil
  | x :: l, a => by
    simp only [cptF]
    split
    · exact (cptF_sub l a).cons _
    · exact (cptF_sub l x).cons_cons _
theorem cpt_sub (l : List (List UInt8)) : (cpt l).Sublist l := by
  cases l with
  | nil => exact .slnil
  | cons x l => exact (cptF_sub l x).cons_cons _
def keysT (l : List Ent) : List (List UInt8) := cpt (l.map (·.1))
theorem keys_len (l : List Ent) : (keysT l).length ≤ l.length := by
  have := (cpt_sub (l.map (·.1))).length_le
  rwa [List.length_map] at this
theorem keys_ok {l : List Ent} (hm : l.length ≤ 1024) (hc : chS zE l = true) : mkVE (keysT l) = 0 ∧ mkVL (keysT l) = sieveL (keysT l) ∧ (sieveL (keysT l)).length ≤ 1024 := by
  have h1 := keys_len l
  have h2 : (keysT l).all keyO = true := by
    rw [List.all_eq_true]
    intro x hx
    obtain ⟨e, he, rfl⟩ := List.mem_map.1 ((cpt_sub _).subset hx)
    have := entOk_sz (chS_ent hc e he)
    simp [keyO]; omega
  have e : mkVE (keysT l) = 0 := by unfold mkVE; rw [if_neg (by omega), if_pos h2]
  refine ⟨e, by unfold mkVL; rw [if_pos e], ?_⟩
  rw [sieveL_len]; unfold szV; omega
def endT (a b c : Nat) : List UInt8 := le4 a ++ (le4 b ++ (le4 c ++ []))
theorem endT_len (a b c : Nat) : (endT a b c).length = 12 := rfl
def tabT (l : List Ent) : List UInt8 := bodT (pcsT l) ++ (sieveL (keysT l) ++ (sm (pcsT l).length ++ (ixT (pcsT l) ++ (endT (bodT (pcsT l)).length (sieveL (keysT l)).length l.length ++ []))))
theorem cut_facts {l : List Ent} (hm : l.length ≤ 1024) (hc : chS zE l = true) : (∀ p ∈ pcsT l, PtOk p) ∧ (pcsT l).flatten = l ∧ (pcsT l).length ≤ 1024 ∧ (bodT (pcsT l)).length ≤ 1048576 ∧ (ixT (pcsT l)).length ≤ 102400 := by
  have h1 : ∀ p ∈ pcsT l, PtOk p := cuts_ok _ l hm hc
  have h2 : (pcsT l).length ≤ 1024 := Nat.le_trans (cuts_len _ l) hm
  have h3 := bod_len _ h1
  have h4 := ix_len _ h1
  exact ⟨h1, cuts_join _ l (Nat.le_refl _), h2, by omega, by omega⟩
theorem tab_len {l : List Ent} (hm : l.length ≤ 1024) (hc : chS zE l = true) : 12 ≤ (tabT l).length ∧ (tabT l).length ≤ 2000000 := by
  obtain ⟨_, _, h3, h4, h5⟩ := cut_facts hm hc
  have h6 := (keys_ok hm hc).2.2
  have h7 := sm_len_le10 (n := (pcsT l).length) (by omega)
  unfold tabT
  simp only [List.length_append, endT_len, List.length_nil]
  omega
def bldE (l : List Ent) : Int := if l.length < 1 ∨ 1024 < l.length then 4 else if chS zE l then (if 16384 < (tabT l).length then 3 else 0) else 8
def bldL (l : List Ent) : List UInt8 := if bldE l = 0 then tabT l else []
abbrev MetaT : Type := Nat × Nat × List UInt8 × List UInt8
def bldM (l : List Ent) : MetaT := if bldE l = 0 then ((tabT l).length, l.length, (l.headD zE).1, (l.getLastD zE).1) else (0, 0, [], [])
theorem bld_many {l : List Ent} (h : l.length < 1 ∨ 1024 < l.length) : bldE l = 4 ∧ bldL l = [] ∧ bldM l = (0, 0, [], []) := by
  have e : bldE l = 4 := by unfold bldE; rw [if_pos h]
  exact ⟨e, by unfold bldL; rw [e]; rfl, by unfold bldM; rw [e]; rfl⟩
theorem bld_bad {l : List Ent} (h : ¬ (l.length < 1 ∨ 1024 < l.length)) (h2 : chS zE l = false) : bldE l = 8 ∧ bldL l = [] ∧ bldM l = (0, 0, [], []) := by
  have e : bldE l = 8 := by unfold bldE; rw [if_neg h, h2]; rfl
  exact ⟨e, by unfold bldL; rw [e]; rfl, by unfold bldM; rw [e]; rfl⟩
theorem bld_long {l : List Ent} (h : ¬ (l.length < 1 ∨ 1024 < l.length)) (h2 : chS zE l = true) (h3 : 16384 < (tabT l).length) : bldE l = 3 ∧ bldL l = [] ∧ bldM l = (0, 0, [], []) := by
  have e : bldE l = 3 := by unfold bldE; rw [if_neg h, h2, if_pos rfl, if_pos h3]
  exact ⟨e, by unfold bldL; rw [e]; rfl, by unfold bldM; rw [e]; rfl⟩
theorem bld_fine {l : List Ent} (h : ¬ (l.length < 1 ∨ 1024 < l.length)) (h2 : chS zE l = true) (h3 : ¬ 16384 < (tabT l).length) : bldE l = 0 ∧ bldL l = tabT l ∧ bldM l = ((tabT l).length, l.length, (l.headD zE).1, (l.getLastD zE).1) := by
  have e : bldE l = 0 := by unfold bldE; rw [if_neg h, h2, if_pos rfl, if_neg h3]
  exact ⟨e, by unfold bldL; rw [if_pos e], by unfold bldM; rw [if_pos e]⟩
theorem bld_ok {l : List Ent} (h : bldE l = 0) : 1 ≤ l.length ∧ l.length ≤ 1024 ∧ chS zE l = true ∧ (tabT l).length ≤ 16384 ∧ bldL l = tabT l ∧ bldM l = ((tabT l).length, l.length, (l.headD zE).1, (l.getLastD zE).1) := by
  by_cases h1 : l.length < 1 ∨ 1024 < l.length
  · rw [(bld_many h1).1] at h; cases h
  · cases h2 : chS zE l with
    | false => rw [(bld_bad h1 h2).1] at h; cases h
    | true =>
      by_cases h3 : 16384 < (tabT l).length
      · rw [(bld_long h1 h2 h3).1] at h; cases h
      · exact ⟨by omega, by omega, rfl, by omega, (bld_fine h1 h2 h3).2⟩
def IsT (b : List UInt8) (l : List Ent) : Prop := bldE l = 0 ∧ tabT l = b
theorem IsT.ok {b : List UInt8} {l : List Ent} (h : IsT b l) : 1 ≤ l.length ∧ l.length ≤ 1024 ∧ chS zE l = true ∧ b.length ≤ 16384 := by
  obtain ⟨h1, h2, h3, h4, _⟩ := bld_ok h.1
  exact ⟨h1, h2, h3, by rw [← h.2]; exact h4⟩
theorem IsT.parts {b : List UInt8} {l : List Ent} (h : IsT b l) : ∃ x, 12 ≤ b.length ∧ b.take (b.length - 12) = bodT (pcsT l) ++ x ∧ x = sieveL (keysT l) ++ (sm (pcsT l).length ++ ixT (pcsT l)) ∧ b.drop (b.length - 12) = endT (bodT (pcsT l)).length (sieveL (keysT l)).length l.length := by
  obtain ⟨h1, h2, h3, h4⟩ := h.ok
  refine ⟨_, ?_, ?_, rfl, ?_⟩
  · rw [← h.2]; exact (tab_len h2 h3).1
  all_goals
    have e : b = (bodT (pcsT l) ++ (sieveL (keysT l) ++ (sm (pcsT l).length ++ ixT (pcsT l)))) ++ endT (bodT (pcsT l)).length (sieveL (keysT l)).length l.length := by
      rw [← h.2]; unfold tabT; simp only [List.append_assoc, List.append_nil]
    have hl : b.length - 12 = (bodT (pcsT l) ++ (sieveL (keysT l) ++ (sm (pcsT l).length ++ ixT (pcsT l)))).length := by
      rw [e, List.length_append (bs := endT _ _ _), endT_len]; omega
    rw [hl]
    generalize hX : bodT (pcsT l) ++ (sieveL (keysT l) ++ (sm (pcsT l).length ++ ixT (pcsT l))) = X at *
    rw [e]; simp
theorem end_nums {a b c : Nat} (ha : a < 4294967296) (hb : b < 4294967296) : un4 ((endT a b c).take 4) = a ∧ un4 (((endT a b c).drop 4).take 4) = b := by
  have e1 : (endT a b c).take 4 = le4 a := rfl
  have e2 : ((endT a b c).drop 4).take 4 = le4 b := rfl
  rw [e1, e2, un4_le4 a ha, un4_le4 b hb]
  exact ⟨rfl, rfl⟩
theorem IsT.nums {b : List UInt8} {l : List Ent} (h : IsT b l) : un4 ((b.drop (b.length - 12)).take 4) = (bodT (pcsT l)).length ∧ un4 (((b.drop (b.length - 12)).drop 4).take 4) = (sieveL (keysT l)).length := by
  obtain ⟨h1, h2, h3, h4⟩ := h.ok
  obtain ⟨x, _, _, _, e⟩ := h.parts
  rw [e]
  exact end_nums (by have := (cut_facts h2 h3).2.2.2.1; omega) (by have := (keys_ok h2 h3).2.2; omega)
def prsB : Nat → List UInt8 → List (List Ent)
  | 0, _ => []
  | f + 1, b => match cutW 1024 b with
    | none => []
    | some (m, z) => match itE z m with
      | none => []
      | some (p, r) => p :: prsB f r
theorem blk_cut {p : List Ent} {r : List UInt8} (hp : PtOk p) : ∃ z, cutW 1024 (blkK p ++ r) = some (p.length, z) ∧ itE z p.length = some (p, r) := by
  have h1 := hp.len
  refine ⟨entsB zE p ++ r, ?_, ?_⟩
  · unfold blkK
    rw [List.append_assoc, cutW_sm h1.2 (by omega)]
  · rw [itE_ents p r hp.ch p.length (Nat.le_refl _)]
    simp [entsB]
theorem prs_bod : ∀ (f : Nat) (ps : List (List Ent)), (∀ p ∈ ps, PtOk p) → ps.length ≤ f → prsB f (bodT ps) = ps
  | 0, ps, _, h => by
    obtain rfl := List.length_eq_zero_iff.1 (show ps.length = 0 by omega)
    rfl
  | f + 1, [], _, _ => by simp [prsB, bodT, cutW, rd, rdGo]
  | f + 1, p :: ps, hp, h => by
    rw [bod_cons, prsB]
    obtain ⟨z, e1, e2⟩ := blk_cut (r := bodT ps) (hp p (List.mem_cons_self ..))
    rw [e1]
    simp only [e2]
    rw [prs_bod f ps (fun x hx => hp x (List.mem_cons_of_mem _ hx)) (by simpa using h)]
def canT (b : List UInt8) : List Ent := (prsB 1024 (b.take (un4 ((b.drop (b.length - 12)).take 4)))).flatten
theorem IsT.can {b : List UInt8} {l : List Ent} (h : IsT b l) : canT b = l := by
  obtain ⟨h1, h2, h3, h4⟩ := h.ok
  obtain ⟨x, e0, e1, _, _⟩ := h.parts
  obtain ⟨c1, c2, c3, _⟩ := cut_facts h2 h3
  unfold canT
  rw [h.nums.1]
  have e2 : b.take (bodT (pcsT l)).length = bodT (pcsT l) := by
    have hl : (bodT (pcsT l)).length ≤ b.length - 12 := by
      have := congrArg List.length e1
      rw [List.length_append, List.length_take] at this
      omega
    have e3 := congrArg (List.take (bodT (pcsT l)).length) e1
    rw [List.take_left, List.take_take, Nat.min_eq_left hl] at e3
    exact e3
  rw [e2, prs_bod _ _ c1 c3, c2]
def rdTO (b : List UInt8) : Option (List Ent) := if bldE (canT b) = 0 ∧ tabT (canT b) = b then some (canT b) else none
theorem rdTO_some {b : List UInt8} {l : List Ent} (h : IsT b l) : rdTO b = some l := by
  unfold rdTO
  rw [h.can]
  exact if_pos h
theorem rdTO_is {b : List UInt8} {l : List Ent} (h : rdTO b = some l) : IsT b l := by
  unfold rdTO at h
  by_cases hx : bldE (canT b) = 0 ∧ tabT (canT b) = b
  · rw [if_pos hx] at h
    injection h with h
    rw [← h]; exact hx
  · rw [if_neg hx] at h; cases h
theorem rdTO_none {b : List UInt8} (h : ∀ l, ¬ IsT b l) : rdTO b = none := by
  unfold rdTO
  exact if_neg (fun hl => h _ hl)
def rdTE (b : List UInt8) : Int := if 16384 < b.length then 3 else if (rdTO b).isSome then 0 else 8
def rdTL (b : List UInt8) : List Ent := if 16384 < b.length then [] else (rdTO b).getD []
theorem rdT_long {b : List UInt8} (h : 16384 < b.length) : rdTE b = 3 ∧ rdTL b = [] := by simp [rdTE, rdTL, h]
theorem rdT_none {b : List UInt8} (h : ¬ 16384 < b.length) (h2 : ∀ l, ¬ IsT b l) : rdTE b = 8 ∧ rdTL b = [] := by simp [rdTE, rdTL, h, rdTO_none h2]
theorem rdT_some {b : List UInt8} {l : List Ent} (h2 : IsT b l) : rdTE b = 0 ∧ rdTL b = l := by
  have h : ¬ 16384 < b.length := by have := h2.ok; omega
  simp [rdTE, rdTL, h, rdTO_some h2]
theorem rdT_ok {b : List UInt8} (h : rdTE b = 0) : IsT b (rdTL b) := by
  by_cases h1 : 16384 < b.length
  · rw [(rdT_long h1).1] at h; cases h
  · cases h2 : rdTO b with
    | none => unfold rdTE at h; rw [if_neg h1, h2] at h; simp at h
    | some l =>
      have := rdTO_is h2
      rw [(rdT_some this).2]; exact this
theorem rdT_no {b : List UInt8} (h : rdTE b ≠ 0) : rdTL b = [] := by
  by_cases h1 : 16384 < b.length
  · exact (rdT_long h1).2
  · cases h2 : rdTO b with
    | none => unfold rdTL; rw [if_neg h1, h2]; rfl
    | some l => exact absurd (rdT_some (rdTO_is h2)).1 h
theorem rdTL_len (b : List UInt8) : (rdTL b).length ≤ 1024 := by
  by_cases h : rdTE b = 0
  · exact (rdT_ok h).ok.2.1
  · rw [rdT_no h]; simp
theorem rdTL_ch (b : List UInt8) : chS zE (rdTL b) = true := by
  by_cases h : rdTE b = 0
  · exact (rdT_ok h).ok.2.2.1
  · rw [rdT_no h]; rfl
def ask14 (key : List UInt8) (seq : Int) : Int := if key.length < 1 ∨ 64 < key.length then 3 else if seq < 0 ∨ 1099511627776 < seq then 2 else 0
def gtTE (b key : List UInt8) (seq : Int) : Int := if rdTE b = 0 then ask14 key seq else rdTE b
def gtTO (b key : List UInt8) (seq : Int) : Option Ent := if gtTE b key seq = 0 then findK (rdTL b) key seq else none
def gtTV (b key : List UInt8) (seq : Int) : Ent := (gtTO b key seq).getD zE
def gtTB (b key : List UInt8) (seq : Int) : Bool := (gtTO b key seq).isSome
theorem gt_bad {b key : List UInt8} {seq : Int} (h : gtTE b key seq ≠ 0) : gtTV b key seq = zE ∧ gtTB b key seq = false := by
  simp [gtTV, gtTB, gtTO, h]
theorem gt_none {b key : List UInt8} {seq : Int} (h : gtTE b key seq = 0) (h2 : findK (rdTL b) key seq = none) : gtTV b key seq = zE ∧ gtTB b key seq = false := by
  simp [gtTV, gtTB, gtTO, h, h2]
theorem gt_some {b key : List UInt8} {seq : Int} {x : Ent} (h : gtTE b key seq = 0) (h2 : findK (rdTL b) key seq = some x) : gtTV b key seq = x ∧ gtTB b key seq = true := by
  simp [gtTV, gtTB, gtTO, h, h2]
theorem gt_e1 {b key : List UInt8} {seq : Int} (h : rdTE b ≠ 0) : gtTE b key seq = rdTE b := by unfold gtTE; rw [if_neg h]
theorem gt_e0 {b key : List UInt8} {seq : Int} (h : rdTE b = 0) : gtTE b key seq = ask14 key seq := by unfold gtTE; rw [if_pos h]
theorem gt_e2 {b key : List UInt8} {seq : Int} (h : rdTE b = 0) (h2 : key.length < 1 ∨ 64 < key.length) : gtTE b key seq = 3 := by rw [gt_e0 h]; unfold ask14; rw [if_pos h2]
theorem gt_e3 {b key : List UInt8} {seq : Int} (h : rdTE b = 0) (h2 : ¬ (key.length < 1 ∨ 64 < key.length)) (h3 : seq < 0 ∨ 1099511627776 < seq) : gtTE b key seq = 2 := by rw [gt_e0 h]; unfold ask14; rw [if_neg h2, if_pos h3]
theorem gt_e4 {b key : List UInt8} {seq : Int} (h : rdTE b = 0) (h2 : ¬ (key.length < 1 ∨ 64 < key.length)) (h3 : ¬ (seq < 0 ∨ 1099511627776 < seq)) : gtTE b key seq = 0 := by rw [gt_e0 h]; unfold ask14; rw [if_neg h2, if_neg h3]
def rgTE (b x y : List UInt8) : Int := if rdTE b = 0 then (if 64 < x.length ∨ 64 < y.length then 3 else 0) else rdTE b
def rgTL (b x y : List UInt8) : List Ent := if rgTE b x y = 0 then partM (rdTL b) x y else []
theorem rg_e1 {b x y : List UInt8} (h : rdTE b ≠ 0) : rgTE b x y = rdTE b ∧ rgTL b x y = [] := by
  have e : rgTE b x y = rdTE b := by unfold rgTE; rw [if_neg h]
  exact ⟨e, by unfold rgTL; rw [e, if_neg h]⟩
theorem rg_e2 {b x y : List UInt8} (h : rdTE b = 0) (h2 : 64 < x.length ∨ 64 < y.length) : rgTE b x y = 3 ∧ rgTL b x y = [] := by
  have e : rgTE b x y = 3 := by unfold rgTE; rw [if_pos h, if_pos h2]
  exact ⟨e, by unfold rgTL; rw [e]; rfl⟩
theorem rg_e3 {b x y : List UInt8} (h : rdTE b = 0) (h2 : ¬ (64 < x.length ∨ 64 < y.length)) : rgTE b x y = 0 ∧ rgTL b x y = partM (rdTL b) x y := by
  have e : rgTE b x y = 0 := by unfold rgTE; rw [if_pos h, if_neg h2]
  exact ⟨e, by unfold rgTL; rw [if_pos e]⟩
theorem part_take (l : List Ent) (x y : List UInt8) (k : Nat) (h : k < l.length) : partM (l.take (k + 1)) x y = if inR x y l[k].1 then partM (l.take k) x y ++ [l[k]] else partM (l.take k) x y := by
  unfold partM
  rw [List.take_succ_eq_append_getElem h, List.filter_append]
  cases hi : inR x y l[k].1 <;> simp [List.filter, hi]
theorem part_len (l : List Ent) (x y : List UInt8) : (partM l x y).length ≤ l.length := List.length_filter_le _ _

theorem entsB_ge : ∀ (a : Ent) (l : List Ent), l.length ≤ (entsB a l).length
  | _, [] => Nat.zero_le _
  | a, e :: l => by
    have := entsB_ge e l
    have h1 := sm_pos (cmn a.1 e.1)
    rw [entsB, List.length_append, List.length_cons]
    unfold entB
    simp only [List.length_append]
    omega
theorem rdKL_le (b : List UInt8) : (rdKL b).length ≤ b.length := by
  by_cases h : rdKE b = 0
  · obtain ⟨h1, h2⟩ := rdK_ok h
    have e := (readK_can h2).1
    have := congrArg List.length e
    have h3 := entsB_ge zE (rdKL b)
    unfold blkK at this
    rw [List.length_append] at this
    omega
  · rw [rdK_no h]; exact Nat.zero_le _
theorem rdK_pt {p : List Ent} (h : PtOk p) : rdKE (blkK p) = 0 ∧ rdKL (blkK p) = p := by
  have := rdK_wr h.1
  rwa [h.wr] at this

end Go.Proofs.Ytjkoemdojdcmpaa
