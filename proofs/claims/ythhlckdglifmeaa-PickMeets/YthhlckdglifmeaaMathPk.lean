/-
  Plain mathematics of package pick (layer 18): by how much levels are too full, what is compacted next, and that what comes of it can be swapped in. No program is named here.
-/
import Derived.Test.YthhlckdglifmeaaMathVn3
namespace Go.Proofs.Ythhlckdglifmeaa
open Go.RowKit
set_option linter.unusedVariables false
set_option linter.unusedSimpArgs false

def hldP (k : Nat) : Nat := if k = 0 then 3 else if k = 1 then 8 else 16
def ovrP (L : List (List Mta)) (k : Nat) : Nat := if k = 3 then 0 else (L.getD k []).length - hldP k
def fulS (L : List (List Mta)) : Nat → Option Nat × Nat
  | 0 => (none, 0)
  | k + 1 => if (fulS L k).2 < ovrP L k then (some k, ovrP L k) else fulS L k
def fulP (L : List (List Mta)) : Option Nat := (fulS L 4).1
theorem fulS_some {L : List (List Mta)} : ∀ {k n : Nat}, (fulS L k).1 = some n → n < k ∧ 1 ≤ ovrP L n ∧ (fulS L k).2 = ovrP L n
  | 0, n, h => by cases h
  | k + 1, n, h => by
    unfold fulS at h ⊢
    split at h
    · rename_i hk
      obtain rfl : k = n := by simpa using h
      rw [if_pos hk]
      exact ⟨by omega, by omega, rfl⟩
    · rename_i hk
      rw [if_neg hk]
      obtain ⟨h1, h2, h3⟩ := fulS_some h
      exact ⟨by omega, h2, h3⟩
theorem fulS_none {L : List (List Mta)} : ∀ {k : Nat}, (fulS L k).1 = none → (fulS L k).2 = 0 ∧ ∀ n, n < k → ovrP L n = 0
  | 0, _ => ⟨rfl, fun n h => absurd h (by omega)⟩
  | k + 1, h => by
    unfold fulS at h ⊢
    split at h
    · cases h
    · rename_i hk
      rw [if_neg hk]
      obtain ⟨h1, h2⟩ := fulS_none h
      refine ⟨h1, fun n hn => ?_⟩
      by_cases e : n = k
      · subst e; omega
      · exact h2 n (by omega)
theorem ovrP_3 (L : List (List Mta)) : ovrP L 3 = 0 := rfl
theorem fulP_some {L : List (List Mta)} {n : Nat} (h : fulP L = some n) : n ≤ 2 ∧ 1 ≤ ovrP L n := by
  obtain ⟨h1, h2, _⟩ := fulS_some h
  refine ⟨?_, h2⟩
  by_cases e : n = 3
  · subst e; rw [ovrP_3] at h2; omega
  · omega
theorem fulP_none {L : List (List Mta)} (h : fulP L = none) (n : Nat) (hn : n < 4) : ovrP L n = 0 := (fulS_none h).2 n hn

def scrE (V : Vrs) (k : Int) : Int := if chkV V ≠ 0 then chkV V else if k < 0 ∨ 3 < k then 2 else 0
def scrN (V : Vrs) (k : Int) : Int := if scrE V k ≠ 0 then 0 else (ovrP V.1 k.toNat : Nat)
def nedB (V : Vrs) : Bool := decide (chkV V = 0) && (fulP V.1).isSome
def pckE (V : Vrs) : Int := if chkV V ≠ 0 then chkV V else if fulP V.1 = none then 6 else 0
def uppP (L : List (List Mta)) (n : Nat) : List Mta := if n = 0 then L.getD 0 [] else (L.getD n []).take 1
def fmn (a : List UInt8) (l : List Mta) : List UInt8 := l.foldl (fun a m => if ltS (Mlo m) a then Mlo m else a) a
def fmx (a : List UInt8) (l : List Mta) : List UInt8 := l.foldl (fun a m => if ltS a (Mhi m) then Mhi m else a) a
def loP (l : List Mta) : List UInt8 := match l with | [] => [] | x :: r => fmn (Mlo x) r
def hiP (l : List Mta) : List UInt8 := match l with | [] => [] | x :: r => fmx (Mhi x) r
def lwrP (L : List (List Mta)) (n : Nat) : List Mta := metM (L.getD (n + 1) []) (loP (uppP L n)) (hiP (uppP L n))
def pckW (V : Vrs) : Int × List Mta × List Mta := match fulP V.1 with
  | some n => if chkV V = 0 then ((n : Int), uppP V.1 n, lwrP V.1 n) else (0, [], [])
  | none => (0, [], [])

theorem leS_trans {a b c : List UInt8} (h : ltS b a = false) (k : ltS c b = false) : ltS c a = false := by
  cases q : ltS c a with
  | false => rfl
  | true =>
    have := ltS_trans_le q h
    rw [this] at k; cases k
theorem leS_refl (a : List UInt8) : ltS a a = false := ltS_irrefl a
theorem fmn_le : ∀ (l : List Mta) (a : List UInt8), ltS a (fmn a l) = false ∧ ∀ m ∈ l, ltS (Mlo m) (fmn a l) = false
  | [], a => ⟨leS_refl a, fun m h => by cases h⟩
  | x :: r, a => by
    obtain ⟨h1, h2⟩ := fmn_le r (if ltS (Mlo x) a then Mlo x else a)
    have e : fmn a (x :: r) = fmn (if ltS (Mlo x) a then Mlo x else a) r := rfl
    rw [e]
    by_cases q : ltS (Mlo x) a = true
    · rw [if_pos q] at h1 h2 ⊢
      refine ⟨leS_trans h1 (ltS_asymm q), fun m hm => ?_⟩
      rcases List.mem_cons.1 hm with rfl | hm
      · exact h1
      · exact h2 m hm
    · rw [if_neg q] at h1 h2 ⊢
      have q' : ltS (Mlo x) a = false := by simpa using q
      refine ⟨h1, fun m hm => ?_⟩
      rcases List.mem_cons.1 hm with rfl | hm
      · exact leS_trans h1 q'
      · exact h2 m hm
theorem fmn_mem : ∀ (l : List Mta) (a : List UInt8), fmn a l = a ∨ ∃ m ∈ l, fmn a l = Mlo m
  | [], a => .inl rfl
  | x :: r, a => by
    have e : fmn a (x :: r) = fmn (if ltS (Mlo x) a then Mlo x else a) r := rfl
    rw [e]
    rcases fmn_mem r (if ltS (Mlo x) a then Mlo x else a) with h | ⟨m, hm, h⟩
    · rw [h]
      split
      · exact .inr ⟨x, List.mem_cons_self, rfl⟩
      · exact .inl rfl
    · exact .inr ⟨m, List.mem_cons_of_mem _ hm, h⟩
theorem fmx_le : ∀ (l : List Mta) (a : List UInt8), ltS (fmx a l) a = false ∧ ∀ m ∈ l, ltS (fmx a l) (Mhi m) = false
  | [], a => ⟨leS_refl a, fun m h => by cases h⟩
  | x :: r, a => by
    obtain ⟨h1, h2⟩ := fmx_le r (if ltS a (Mhi x) then Mhi x else a)
    have e : fmx a (x :: r) = fmx (if ltS a (Mhi x) then Mhi x else a) r := rfl
    rw [e]
    by_cases q : ltS a (Mhi x) = true
    · rw [if_pos q] at h1 h2 ⊢
      refine ⟨leS_trans (ltS_asymm q) h1, fun m hm => ?_⟩
      rcases List.mem_cons.1 hm with rfl | hm
      · exact h1
      · exact h2 m hm
    · rw [if_neg q] at h1 h2 ⊢
      have q' : ltS a (Mhi x) = false := by simpa using q
      refine ⟨h1, fun m hm => ?_⟩
      rcases List.mem_cons.1 hm with rfl | hm
      · exact leS_trans q' h1
      · exact h2 m hm
theorem fmx_mem : ∀ (l : List Mta) (a : List UInt8), fmx a l = a ∨ ∃ m ∈ l, fmx a l = Mhi m
  | [], a => .inl rfl
  | x :: r, a => by
    have e : fmx a (x :: r) = fmx (if ltS a (Mhi x) then Mhi x else a) r := rfl
    rw [e]
    rcases fmx_mem r (if ltS a (Mhi x) then Mhi x else a) with h | ⟨m, hm, h⟩
    · rw [h]
      split
      · exact .inr ⟨x, List.mem_cons_self, rfl⟩
      · exact .inl rfl
    · exact .inr ⟨m, List.mem_cons_of_mem _ hm, h⟩
theorem mem_metM {l : List Mta} {a b : List UInt8} {m : Mta} : m ∈ metM l a b ↔ m ∈ l ∧ ltS (Mhi m) a = false ∧ ltS b (Mlo m) = false := by
  unfold metM
  simp only [List.mem_filter, Bool.and_eq_true, Bool.not_eq_true']
theorem fmn_app (a : List UInt8) (l m : List Mta) : fmn a (l ++ m) = fmn (fmn a l) m := by unfold fmn; rw [List.foldl_append]
theorem fmx_app (a : List UInt8) (l m : List Mta) : fmx a (l ++ m) = fmx (fmx a l) m := by unfold fmx; rw [List.foldl_append]
theorem fmn_head (x : Mta) (r : List Mta) : fmn (Mlo x) (x :: r) = fmn (Mlo x) r := by
  show fmn (if ltS (Mlo x) (Mlo x) then Mlo x else Mlo x) r = _
  rw [ite_self]
theorem fmx_head (x : Mta) (r : List Mta) : fmx (Mhi x) (x :: r) = fmx (Mhi x) r := by
  show fmx (if ltS (Mhi x) (Mhi x) then Mhi x else Mhi x) r = _
  rw [ite_self]

/-! ### what is taken out -/
theorem lesV_cons_not {x : Mta} : ∀ (s t : List Mta), x ∉ s → lesV (x :: t) s = (lesV t s).map (x :: ·)
  | [], t, _ => rfl
  | y :: s, t, h => by
    have hy : y ≠ x := fun e => h (by rw [e]; exact List.mem_cons_self)
    have hs : x ∉ s := fun e => h (List.mem_cons_of_mem _ e)
    unfold lesV
    by_cases q : y ∈ t
    · rw [if_pos (List.mem_cons_of_mem _ q), if_pos q, List.erase_cons_tail (by simpa using Ne.symm hy), lesV_cons_not s (t.erase y) hs]
    · rw [if_neg (by simp only [List.mem_cons, not_or]; exact ⟨hy, q⟩), if_neg q]; rfl
theorem lesV_filter (p : Mta → Bool) : ∀ {l : List Mta}, l.Nodup → lesV l (l.filter p) = some (l.filter fun x => !p x)
  | [], _ => rfl
  | x :: t, h => by
    obtain ⟨h1, h2⟩ := List.nodup_cons.1 h
    by_cases q : p x = true
    · rw [List.filter_cons_of_pos q, List.filter_cons_of_neg (by simpa using q)]
      unfold lesV
      rw [if_pos List.mem_cons_self, List.erase_cons_head]
      exact lesV_filter p h2
    · rw [List.filter_cons_of_neg q, List.filter_cons_of_pos (by simpa using q), lesV_cons_not _ _ (fun e => h1 (List.mem_filter.1 e).1), lesV_filter p h2]
      rfl
theorem lesV_all : ∀ (l : List Mta), lesV l l = some []
  | [] => rfl
  | x :: t => by
    unfold lesV
    rw [if_pos List.mem_cons_self, List.erase_cons_head]
    exact lesV_all t
theorem lesV_first (x : Mta) (t : List Mta) : lesV (x :: t) [x] = some t := by
  unfold lesV
  rw [if_pos List.mem_cons_self, List.erase_cons_head]
  rfl
theorem putV_apart {l : List Mta} {x : Mta} (h1 : ∀ m ∈ l, mtO m = true) (h2 : risB abvM l = true) (hx : ltS (Mhi x) (Mlo x) = false) (h : ∀ m ∈ l, ltS (Mhi m) (Mlo x) = true ∨ ltS (Mhi x) (Mlo m) = true) : risB abvM (putV l x) = true := by
  apply pair_ris
  have hp := ris_pair h1 h2
  have hlo := ris_lo h1 h2
  unfold putV insV posV
  rw [(takeW_take _ l).1, (takeW_take _ l).2, List.append_assoc, List.pairwise_append]
  have hs : (l.takeWhile fun e => ltS (Mlo e) (Mlo x)) ++ l.dropWhile (fun e => ltS (Mlo e) (Mlo x)) = l := List.takeWhile_append_dropWhile
  have hq := hp
  rw [← hs, List.pairwise_append] at hq
  have ht : ∀ a ∈ l.takeWhile (fun e => ltS (Mlo e) (Mlo x)), ltS (Mhi a) (Mlo x) = true := by
    intro a ha
    have ha2 : a ∈ l := by rw [← hs]; exact List.mem_append.2 (.inl ha)
    have hb : ltS (Mlo a) (Mlo x) = true := mem_takeW (p := fun e => ltS (Mlo e) (Mlo x)) ha
    rcases h a ha2 with k | k
    · exact k
    · exfalso
      have := ltS_trans (ltS_le_trans hx k) hb
      rw [ltS_irrefl] at this; cases this
  have hd : ∀ b ∈ l.dropWhile (fun e => ltS (Mlo e) (Mlo x)), ltS (Mhi x) (Mlo b) = true := by
    intro b hb
    have hb2 : b ∈ l := by rw [← hs]; exact List.mem_append.2 (.inr hb)
    have hc := mem_dropW (R := fun a b => ltS (Mlo a) (Mlo b) = true) (p := fun e => ltS (Mlo e) (Mlo x)) (fun a b hab hb => ltS_trans hab hb) hlo b hb
    rcases h b hb2 with k | k
    · exfalso
      have := ltS_le_trans (mtO_le (h1 b hb2)) k
      rw [this] at hc; cases hc
    · exact k
  refine ⟨hq.1, List.pairwise_cons.2 ⟨fun e he => hd e he, hq.2.1⟩, ?_⟩
  intro a ha b hb
  rcases List.mem_cons.1 hb with rfl | hb
  · exact ht a ha
  · exact hq.2.2 a ha b hb
theorem ris_sub {l t : List Mta} (h1 : ∀ m ∈ l, mtO m = true) (h2 : risB abvM l = true) (h : t.Sublist l) : risB abvM t = true := pair_ris ((ris_pair h1 h2).sublist h)

/-! ### the stage's theorem -/
theorem getD_lt {L : List (List Mta)} {k : Nat} (h : k < L.length) : L.getD k [] = L[k] := by rw [List.getD_eq_getElem?_getD, List.getElem?_eq_getElem h]; rfl
theorem getD_ge {L : List (List Mta)} {k : Nat} (h : L.length ≤ k) : L.getD k [] = [] := by rw [List.getD_eq_getElem?_getD, List.getElem?_eq_none h]; rfl
theorem names_flat {V : Vrs} (h : chkV V = 0) : V.1.flatten.Nodup := by
  have hn := (mayV_iff.1 (chkV_ok.1 h).2).2.2.2.2
  unfold nmsV at hn
  have h2 : (V.1.flatten.map (·.1)).Pairwise (· ≠ ·) := (List.nodup_cons.1 hn).2
  exact (List.pairwise_map.1 h2).imp fun h e => h (congrArg _ e)
theorem level_nodup {V : Vrs} (h : chkV V = 0) (k : Nat) : (lvV V k).Nodup := by
  unfold lvV
  by_cases hk : k < V.1.length
  · rw [getD_lt hk]
    exact (List.pairwise_flatten.1 (names_flat h)).1 _ (List.getElem_mem hk)
  · rw [getD_ge (by omega)]
    exact List.nodup_nil
theorem level_mtO {V : Vrs} (h : chkV V = 0) (k : Nat) : ∀ m ∈ lvV V k, mtO m = true := by
  intro m hm
  unfold lvV at hm
  by_cases hk : k < V.1.length
  · rw [getD_lt hk] at hm
    exact (lvlO_iff.1 (mayV_iff.1 (chkV_ok.1 h).2).2.2.2.1).1 _ (List.getElem_mem hk) m hm
  · rw [getD_ge (by omega)] at hm
    cases hm
theorem level_ris {V : Vrs} (h : chkV V = 0) (k : Nat) (h0 : 0 < k) : risB abvM (lvV V k) = true := by
  unfold lvV
  by_cases hk : k < V.1.length
  · rw [getD_lt hk]
    exact (lvlO_iff.1 (mayV_iff.1 (chkV_ok.1 h).2).2.2.2.1).2 k hk h0
  · rw [getD_ge (by omega)]; rfl
theorem upp_cons {L : List (List Mta)} {n : Nat} (h : 1 ≤ ovrP L n) : ∃ x r, uppP L n = x :: r := by
  have hl : 1 ≤ (L.getD n []).length := by unfold ovrP at h; split at h <;> omega
  unfold uppP
  split
  · rename_i h0; subst h0
    cases e : L.getD 0 [] with
    | nil => rw [e] at hl; simp at hl
    | cons x r => exact ⟨x, r, rfl⟩
  · cases e : L.getD n [] with
    | nil => rw [e] at hl; simp at hl
    | cons x r => exact ⟨x, [], rfl⟩
theorem upp_sub {L : List (List Mta)} {n : Nat} : ∀ m ∈ uppP L n, m ∈ L.getD n [] := by
  intro m hm
  unfold uppP at hm
  split at hm
  · rename_i h0; subst h0; exact hm
  · exact List.mem_of_mem_take hm
theorem upp_les {L : List (List Mta)} {n : Nat} (h : 1 ≤ ovrP L n) : ∃ t, lesV (L.getD n []) (uppP L n) = some t ∧ t.Sublist (L.getD n []) ∧ t.length + (uppP L n).length = (L.getD n []).length := by
  have hl : 1 ≤ (L.getD n []).length := by unfold ovrP at h; split at h <;> omega
  unfold uppP
  split
  · rename_i h0; subst h0
    exact ⟨[], lesV_all _, List.nil_sublist _, by simp⟩
  · cases e : L.getD n [] with
    | nil => rw [e] at hl; simp at hl
    | cons x r => exact ⟨r, lesV_first x r, List.sublist_cons_self _ _, by simp⟩
theorem set_perm {α : Type} : ∀ (L : List (List α)) (k : Nat) (b : List α), k < L.length → (L.set k b).flatten.Perm (b ++ (L.set k []).flatten)
  | [], k, b, h => absurd h (by simp)
  | x :: L, 0, b, _ => by simp
  | x :: L, k + 1, b, h => by
    have ih := set_perm L k b (by simpa using h)
    simp only [List.set_cons_succ, List.flatten_cons]
    refine (ih.append_left x).trans ?_
    rw [← List.append_assoc, ← List.append_assoc]
    exact List.perm_append_comm.append_right _
def rstP (L : List (List Mta)) (k : Nat) : List Mta := ((L.set (k + 1) []).set k []).flatten
theorem swpL_perm {L : List (List Mta)} {k : Nat} (a b : List Mta) (hk : k + 1 < L.length) : (swpL L k a b).flatten.Perm (b ++ (a ++ rstP L k)) := by
  unfold swpL rstP
  refine (set_perm (L.set k a) (k + 1) b (by rw [List.length_set]; exact hk)).trans (List.Perm.append_left b ?_)
  rw [List.set_comm _ _ (by omega)]
  exact set_perm (L.set (k + 1) []) k a (by rw [List.length_set]; omega)
theorem swpL_self {L : List (List Mta)} {k : Nat} (hk : k + 1 < L.length) : swpL L k (L[k]) (L[k + 1]) = L := by
  unfold swpL
  rw [List.set_getElem_self, List.set_getElem_self]
theorem two_mem {l : List Mta} (h1 : ∀ m ∈ l, mtO m = true) (h2 : risB abvM l = true) {a b : Mta} (ha : a ∈ l) (hb : b ∈ l) : a = b ∨ ltS (Mhi a) (Mlo b) = true ∨ ltS (Mhi b) (Mlo a) = true := by
  have hp := ris_pair h1 h2
  obtain ⟨i, hi, rfl⟩ := List.mem_iff_getElem.1 ha
  obtain ⟨j, hj, rfl⟩ := List.mem_iff_getElem.1 hb
  rcases Nat.lt_trichotomy i j with q | q | q
  · exact .inr (.inl (List.pairwise_iff_getElem.1 hp i j hi hj q))
  · subst q; exact .inl rfl
  · exact .inr (.inr (List.pairwise_iff_getElem.1 hp j i hj hi q))
def tabP (x : Mta) (l : List Mta) : Mta := (x.1, 1, 1, fmn (Mlo x) l, fmx (Mhi x) l)
theorem mtO_parts {m : Mta} (h : mtO m = true) : txO m.1 16 = true ∧ txO (Mlo m) 64 = true ∧ txO (Mhi m) 64 = true ∧ ltS (Mhi m) (Mlo m) = false := by
  unfold mtO at h
  simp only [Bool.and_eq_true, Bool.not_eq_true'] at h
  exact ⟨h.1.1.1.1.1.1.1, h.1.1.2, h.1.2, h.2⟩
theorem mtO_tab {x : Mta} {l : List Mta} (hx : mtO x = true) (hl : ∀ m ∈ l, mtO m = true) : mtO (tabP x l) = true := by
  obtain ⟨a1, a2, a3, a4⟩ := mtO_parts hx
  have b1 : txO (Mlo (tabP x l)) 64 = true := by
    show txO (fmn (Mlo x) l) 64 = true
    rcases fmn_mem l (Mlo x) with e | ⟨m, hm, e⟩
    · rw [e]; exact a2
    · rw [e]; exact (mtO_parts (hl m hm)).2.1
  have b2 : txO (Mhi (tabP x l)) 64 = true := by
    show txO (fmx (Mhi x) l) 64 = true
    rcases fmx_mem l (Mhi x) with e | ⟨m, hm, e⟩
    · rw [e]; exact a3
    · rw [e]; exact (mtO_parts (hl m hm)).2.2.1
  have b3 : ltS (Mhi (tabP x l)) (Mlo (tabP x l)) = false := leS_trans (leS_trans (fmn_le l (Mlo x)).1 a4) (fmx_le l (Mhi x)).1
  unfold mtO
  simp only [Bool.and_eq_true, Bool.not_eq_true']
  exact ⟨⟨⟨⟨⟨⟨⟨a1, rfl⟩, rfl⟩, rfl⟩, rfl⟩, b1⟩, b2⟩, b3⟩
theorem left_apart {l2 : List Mta} (h1 : ∀ m ∈ l2, mtO m = true) (h2 : risB abvM l2 = true) {lo hi : List UInt8} {m : Mta} (hm : m ∈ l2) (hn : m ∉ metM l2 lo hi) (hlh : ltS hi lo = false) :
    ltS (Mhi m) (fmn lo (metM l2 lo hi)) = true ∨ ltS (fmx hi (metM l2 lo hi)) (Mlo m) = true := by
  have hno : ltS (Mhi m) lo = true ∨ ltS hi (Mlo m) = true := by
    cases q1 : ltS (Mhi m) lo with
    | true => exact .inl rfl
    | false =>
      cases q2 : ltS hi (Mlo m) with
      | true => exact .inr rfl
      | false => exact absurd (mem_metM.2 ⟨hm, q1, q2⟩) hn
  rcases hno with q | q
  · left
    rcases fmn_mem (metM l2 lo hi) lo with e | ⟨w, hw, e⟩
    · rw [e]; exact q
    · rw [e]
      obtain ⟨w1, w2, w3⟩ := mem_metM.1 hw
      rcases two_mem h1 h2 hm w1 with e | k | k
      · subst e; rw [q] at w2; cases w2
      · exact k
      · have := ltS_trans (ltS_trans_le k (mtO_le (h1 m hm))) q
        rw [this] at w2; cases w2
  · right
    rcases fmx_mem (metM l2 lo hi) hi with e | ⟨w, hw, e⟩
    · rw [e]; exact q
    · rw [e]
      obtain ⟨w1, w2, w3⟩ := mem_metM.1 hw
      rcases two_mem h1 h2 w1 hm with e | k | k
      · subst e; rw [q] at w3; cases w3
      · exact k
      · have := ltS_trans q (ltS_le_trans (mtO_le (h1 m hm)) k)
        rw [this] at w3; cases w3
theorem pick_swap {V : Vrs} {n : Nat} {x : Mta} {r : List Mta} (h : chkV V = 0) (hf : fulP V.1 = some n) (hU : uppP V.1 n = x :: r) :
    swpE V n (uppP V.1 n) (lwrP V.1 n) [tabP x (uppP V.1 n ++ lwrP V.1 n)] = 0 ∧ chkV (swpV V n (uppP V.1 n) (lwrP V.1 n) [tabP x (uppP V.1 n ++ lwrP V.1 n)]) = 0 ∧
      ovrP (swpV V n (uppP V.1 n) (lwrP V.1 n) [tabP x (uppP V.1 n ++ lwrP V.1 n)]).1 n < ovrP V.1 n := by
  obtain ⟨hn, ho⟩ := fulP_some hf
  obtain ⟨h32, hmay⟩ := chkV_ok.1 h
  obtain ⟨h4, hlog, hnum, hlv, hnd⟩ := mayV_iff.1 hmay
  have hk : n + 1 < V.1.length := by omega
  obtain ⟨t1, ht1, hs1, hc1⟩ := upp_les ho
  have e1 : lvV V n = V.1[n] := getD_lt (by omega)
  have e2 : lvV V (n + 1) = V.1[n + 1] := getD_lt hk
  have m1 := level_mtO h n
  have m2 := level_mtO h (n + 1)
  have r2 := level_ris h (n + 1) (by omega)
  have d2 := level_nodup h (n + 1)
  have hx1 : mtO x = true := m1 x (upp_sub x (by rw [hU]; exact List.mem_cons_self))
  have hlw : ∀ m ∈ lwrP V.1 n, m ∈ lvV V (n + 1) := fun m hm => (mem_metM.1 hm).1
  have hUL : ∀ m ∈ uppP V.1 n ++ lwrP V.1 n, mtO m = true := fun m hm => by
    rcases List.mem_append.1 hm with hm | hm
    · exact m1 m (upp_sub m hm)
    · exact m2 m (hlw m hm)
  obtain ⟨T, hT⟩ : ∃ T, T = tabP x (uppP V.1 n ++ lwrP V.1 n) := ⟨_, rfl⟩
  have hTm : mtO T = true := by rw [hT]; exact mtO_tab hx1 hUL
  obtain ⟨t2, ht2⟩ : ∃ t2, t2 = (lvV V (n + 1)).filter fun m => !(!ltS (Mhi m) (loP (uppP V.1 n)) && !ltS (hiP (uppP V.1 n)) (Mlo m)) := ⟨_, rfl⟩
  have hl2 : lesV (lvV V (n + 1)) (lwrP V.1 n) = some t2 := by rw [ht2]; exact lesV_filter _ d2
  have hs2 : t2.Sublist (lvV V (n + 1)) := by rw [ht2]; exact List.filter_sublist
  have elo : loP (uppP V.1 n) = fmn (Mlo x) r := by rw [hU]; rfl
  have ehi : hiP (uppP V.1 n) = fmx (Mhi x) r := by rw [hU]; rfl
  have eT1 : Mlo T = fmn (loP (uppP V.1 n)) (lwrP V.1 n) := by rw [hT]; show fmn (Mlo x) (uppP V.1 n ++ lwrP V.1 n) = _; rw [fmn_app, elo, hU, fmn_head]
  have eT2 : Mhi T = fmx (hiP (uppP V.1 n)) (lwrP V.1 n) := by rw [hT]; show fmx (Mhi x) (uppP V.1 n ++ lwrP V.1 n) = _; rw [fmx_app, ehi, hU, fmx_head]
  have hlh : ltS (hiP (uppP V.1 n)) (loP (uppP V.1 n)) = false := by
    rw [elo, ehi]
    exact leS_trans (leS_trans (fmn_le r (Mlo x)).1 (mtO_le hx1)) (fmx_le r (Mhi x)).1
  have hap : ∀ m ∈ t2, ltS (Mhi m) (Mlo T) = true ∨ ltS (Mhi T) (Mlo m) = true := by
    intro m hm
    rw [ht2] at hm
    obtain ⟨q1, q2⟩ := List.mem_filter.1 hm
    rw [eT1, eT2]
    refine left_apart m2 r2 q1 (fun q => ?_) hlh
    obtain ⟨_, q3, q4⟩ := mem_metM.1 q
    rw [q3, q4] at q2
    simp at q2
  have hput : risB abvM (putV t2 T) = true := putV_apart (fun m hm => m2 m (hs2.subset hm)) (ris_sub m2 r2 hs2) (mtO_le hTm) hap
  have hpm : ∀ m ∈ putV t2 T, mtO m = true := fun m hm => by
    rcases List.mem_cons.1 ((insV_perm t2 _ T).mem_iff.1 hm) with rfl | hm
    · exact hTm
    · exact m2 m (hs2.subset hm)
  obtain ⟨X, hX⟩ : ∃ X, X = setVs V (swpL V.1 n t1 (putV t2 T)) := ⟨_, rfl⟩
  have hX1 : X.1 = swpL V.1 n t1 (putV t2 T) := by rw [hX]; rfl
  have hlen : X.1.length = 4 := by rw [hX1]; unfold swpL; rw [List.length_set, List.length_set]; exact h4
  have hUlen : 1 ≤ (uppP V.1 n).length := by rw [hU]; simp
  have hcnt : X.1.flatten.length ≤ 32 := by
    have q := swpL_len (a := t1) (b := putV t2 T) hk
    have q2 : (putV t2 T).length = t2.length + 1 := insV_len _ _ _
    have q3 := (lesV_perm hl2).length_eq
    rw [List.length_append] at q3
    have q4 : t1.length + (uppP V.1 n).length = (V.1[n]).length := by rw [← e1]; exact hc1
    have q5 : (V.1[n + 1]).length = (lwrP V.1 n).length + t2.length := by rw [← e2]; exact q3
    rw [hX1]
    omega
  have hmX : mayV X = true := by
    refine mayV_iff.2 ⟨hlen, by rw [hX]; exact hlog, by rw [hX]; exact hnum, lvlO_iff.2 ⟨?_, ?_⟩, ?_⟩
    · intro l hl m hm
      rw [hX1] at hl
      unfold swpL at hl
      rcases List.mem_or_eq_of_mem_set hl with hl | rfl
      · rcases List.mem_or_eq_of_mem_set hl with hl | rfl
        · exact (lvlO_iff.1 hlv).1 l hl m hm
        · exact m1 m (hs1.subset hm)
      · exact hpm m hm
    · intro k hk2 h0
      have hk3 : k < V.1.length := by omega
      have e : X.1[k] = if n + 1 = k then putV t2 T else if n = k then t1 else V.1[k] := by
        simp only [hX1, swpL, List.getElem_set]
      rw [e]
      split
      · exact hput
      · split
        · rename_i _ q
          subst q
          exact ris_sub m1 (level_ris h n h0) hs1
        · exact (lvlO_iff.1 hlv).2 k hk3 h0
    · have hold : V.1.flatten.Perm ((x :: (r ++ (lwrP V.1 n ++ (t2 ++ (t1 ++ rstP V.1 n)))))) := by
        have q := swpL_perm (V.1[n]) (V.1[n + 1]) hk
        rw [swpL_self hk] at q
        have p1 : (V.1[n]).Perm (uppP V.1 n ++ t1) := by rw [← e1]; exact lesV_perm ht1
        have p2 : (V.1[n + 1]).Perm (lwrP V.1 n ++ t2) := by rw [← e2]; exact lesV_perm hl2
        refine q.trans ((p2.append (p1.append_right _)).trans ?_)
        rw [hU]
        refine List.perm_iff_count.2 fun a => ?_
        simp only [List.count_append, List.count_cons]
        omega
      have hnew : X.1.flatten.Perm (T :: (t2 ++ (t1 ++ rstP V.1 n))) := by
        rw [hX1]
        exact (swpL_perm t1 (putV t2 T) hk).trans ((insV_perm t2 _ T).append_right _)
      have hTx : T.1 = x.1 := by rw [hT]; rfl
      unfold nmsV at hnd ⊢
      have hlogX : X.2.2.2 = V.2.2.2 := by rw [hX]; rfl
      rw [hlogX]
      have p1 : (V.2.2.2 :: X.1.flatten.map (·.1)).Perm (V.2.2.2 :: (x.1 :: (t2 ++ (t1 ++ rstP V.1 n)).map (·.1))) := by
        refine List.Perm.cons _ ?_
        have := hnew.map (·.1)
        simpa [hTx] using this
      have p2 : (V.2.2.2 :: V.1.flatten.map (·.1)).Perm (V.2.2.2 :: (x.1 :: (r ++ (lwrP V.1 n ++ (t2 ++ (t1 ++ rstP V.1 n)))).map (·.1))) := by
        refine List.Perm.cons _ ?_
        have := hold.map (·.1)
        simpa using this
      refine p1.nodup_iff.2 ((p2.nodup_iff.1 hnd).sublist ?_)
      refine List.Sublist.cons_cons _ (List.Sublist.cons_cons _ (List.Sublist.map _ ?_))
      exact ((List.sublist_append_right _ _).trans (List.sublist_append_right _ _))
  have hck : chkV X = 0 := chkV_ok.2 ⟨hcnt, hmX⟩
  have hE : swpE V n (uppP V.1 n) (lwrP V.1 n) [T] = 0 := by
    unfold swpE
    rw [if_neg (fun e => e h), if_neg (by omega), Int.toNat_natCast, show lesV (lvV V n) (uppP V.1 n) = some t1 from ht1, hl2]
    show (if 32 < [T].length then (4 : Int) else chkV (setVs V (swpL V.1 n t1 (putV t2 T)))) = 0
    rw [if_neg (by simp), ← hX]; exact hck
  have hS : swpV V n (uppP V.1 n) (lwrP V.1 n) [T] = X := by
    unfold swpV
    rw [if_neg (fun e => e h), if_neg (by omega), Int.toNat_natCast, show lesV (lvV V n) (uppP V.1 n) = some t1 from ht1, hl2]
    show (if 32 < [T].length then zerV else ckdV (setVs V (swpL V.1 n t1 (putV t2 T)))) = X
    rw [if_neg (by simp), ← hX]
    unfold ckdV
    rw [if_pos hck]
  rw [← hT]
  refine ⟨hE, by rw [hS]; exact hck, ?_⟩
  rw [hS]
  have e : X.1.getD n [] = t1 := by
    rw [getD_lt (by omega)]
    simp only [hX1, swpL, List.getElem_set]
    rw [if_neg (by omega), if_pos trivial]
  unfold ovrP at ho ⊢
  rw [e]
  split
  · omega
  · rename_i h3
    rw [if_neg h3] at ho
    have : t1.length + (uppP V.1 n).length = (V.1.getD n []).length := hc1
    omega
theorem loP_le {l : List Mta} : ∀ m ∈ l, ltS (Mlo m) (loP l) = false := by
  intro m hm
  match l, hm with
  | x :: r, hm =>
    show ltS (Mlo m) (fmn (Mlo x) r) = false
    rcases List.mem_cons.1 hm with rfl | hm
    · exact (fmn_le r (Mlo m)).1
    · exact (fmn_le r (Mlo x)).2 m hm
theorem hiP_ge {l : List Mta} : ∀ m ∈ l, ltS (hiP l) (Mhi m) = false := by
  intro m hm
  match l, hm with
  | x :: r, hm =>
    show ltS (fmx (Mhi x) r) (Mhi m) = false
    rcases List.mem_cons.1 hm with rfl | hm
    · exact (fmx_le r (Mhi m)).1
    · exact (fmx_le r (Mhi x)).2 m hm
theorem met_sub {V : Vrs} {n : Nat} {u m : Mta} (hu : u ∈ uppP V.1 n) (hm : m ∈ metM (V.1.getD (n + 1) []) (Mlo u) (Mhi u)) : m ∈ lwrP V.1 n := by
  obtain ⟨h1, h2, h3⟩ := mem_metM.1 hm
  exact mem_metM.2 ⟨h1, leS_trans (loP_le u hu) h2, leS_trans h3 (hiP_ge u hu)⟩
theorem met_ok {V : Vrs} {n : Nat} {u : Mta} (h : chkV V = 0) (hn : n ≤ 2) (hu : u ∈ uppP V.1 n) : ovlE V ((n : Int) + 1) (Mlo u) (Mhi u) = 0 ∧ ovlL V ((n : Int) + 1) (Mlo u) (Mhi u) = metM (V.1.getD (n + 1) []) (Mlo u) (Mhi u) := by
  have hm := mtO_parts (level_mtO h n u (upp_sub u hu))
  have e : ovlE V ((n : Int) + 1) (Mlo u) (Mhi u) = 0 := by
    unfold ovlE
    rw [if_neg (fun q => q h), if_neg (by omega), hm.2.1, hm.2.2.1]; rfl
  refine ⟨e, ?_⟩
  unfold ovlL
  rw [if_neg (fun q => q e), show ((n : Int) + 1).toNat = n + 1 by omega]
  rfl
end Go.Proofs.Ythhlckdglifmeaa
