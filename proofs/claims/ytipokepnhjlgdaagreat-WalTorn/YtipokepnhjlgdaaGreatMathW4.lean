/-
  Plain mathematics of a log's file: an append, and a loss of power in it.
-/
import Derived.Test.YtipokepnhjlgdaaGreatMathW2
namespace Go.Proofs.YtipokepnhjlgdaaGreat
open Go.RowKit
set_option linter.unusedVariables false
set_option linter.unusedSimpArgs false
theorem qai6 {f : Fsd} {s : List UInt8} {i : Int} {b : List UInt8} (h : (qcl f s i b).2 = 0) :
  ∃ j : Nat, i = j ∧ j < (qag f s).length ∧ qag (qcl f s i b).1 s = (qag f s).set j b ∧ okFs (qcl f s i b).1 ∧ (qcl f s i b).1.2 = f.2 ∧ qa0 f s = 0 ∧ qa0 (qcl f s i b).1 s = 0 ∧ mny (qcl f s i b).1.1 = mny f.1 := by
 obtain ⟨hok, d', e, ha, ho, hact⟩ := qzu h
 obtain ⟨hokF, _, _, hs, hsF, _⟩ := qoj h
 rw [e] at hokF hsF ⊢
 obtain ⟨_, j, rfl, hj, hN⟩ := qzv hok ha
 obtain ⟨hd, hm34, _, _⟩ := qao hok
 obtain ⟨o1, o2, _⟩ := qdh hd hact ho
 have hbl : bloL (d', f.2) s = bloL f s := (qhy (f := f) (g := (d', f.2)) rfl s).1
 have hlF := qc7 hsF
 have hl := qc7 hs
 obtain ⟨_, L, hL⟩ := qcp hs
 have hnd : (bloL f s).Nodup := by rw [(qdc hok hL).2.2.2.1]; exact qhf hok hL
 refine ⟨j, rfl, by rw [hl]; exact hj, ?_, hokF, rfl, hs, hsF, o2⟩
 apply List.ext_getElem
 ·rw [List.length_set, hlF, hl, hbl]
 ·intro k h1 h2
  have hk : k < (bloL f s).length := by rw [← hbl, ← hlF]; exact h1
  have hkf : k < (qag f s).length := by rw [hl]; exact hk
  rw [qhh hsF h1 (by rw [hbl]; exact hk), List.getElem_set]
  have eb : (bloL (d', f.2) s)[k]'(by rw [hbl]; exact hk) = (bloL f s)[k] := by simp only [hbl]
  rw [eb]
  have hr := qcq hs _ (List.getElem_mem hk)
  obtain ⟨n, hn⟩ : ∃ n : Nat, (bloL f s)[k] = n := ⟨((bloL f s)[k]).toNat, by omega⟩
  have hnt : ((bloL f s)[k]).toNat = n := by omega
  have hnm : n < mny f.1 := by omega
  have hw := qfo hd hact ho hnm
  rw [qco o1 (by omega), qco hd hnm, hN] at hw
  rw [hnt]
  show nowD d' n = _
  rw [hw]
  by_cases hjk : j = k
  ·subst hjk
   rw [if_pos hn.symm, if_pos rfl]
  ·rw [if_neg hjk, if_neg, qhh hs hkf hk, hnt]
   intro e9
   exact hjk ((List.getElem_inj hnd).1 (e9.symm.trans hn.symm))
theorem qur : ∀ (l m : List (List UInt8)), (∀ b ∈ l, b.length = 128) → (∀ b ∈ m, b.length = 128) → l.flatten = m.flatten → l = m
 | [], [], _, _, _ => rfl
 | [], c :: m, _, hm, h => by
  have := congrArg List.length h
  have hc := hm c (List.mem_cons_self ..)
  simp [hc] at this
  omega
 | b :: l, [], hl, _, h => by
  have := congrArg List.length h
  have hc := hl b (List.mem_cons_self ..)
  simp [hc] at this
 | b :: l, c :: m, hl, hm, h => by
  have hb := hl b (List.mem_cons_self ..)
  have hc := hm c (List.mem_cons_self ..)
  rw [List.flatten_cons, List.flatten_cons] at h
  obtain ⟨h1, h2⟩ := List.append_inj h (by rw [hb, hc])
  rw [h1, qur l m (fun x hx => hl x (List.mem_cons_of_mem _ hx)) (fun x hx => hm x (List.mem_cons_of_mem _ hx)) h2]
theorem qq3 {f : Fsd} {s : List UInt8} (h : qa0 f s = 0) : qhx f s = (qag f s).flatten := by
 unfold qhx
 rw [if_neg (fun e => e h), qkb h, List.flatMap]
theorem qaa8 {f g : Fsd} {s : List UInt8} (h1 : qa0 f s = 0) (h2 : qa0 g s = 0) (h : qhx f s = qhx g s) : qag g s = qag f s := by
 rw [qq3 h1, qq3 h2] at h
 exact (qur _ _ qip qip h).symm
theorem qaa9 {f g : Fsd} {s : List UInt8} (h : Like f g []) (hs : qa0 f s = 0) : qa0 g s = 0 ∧ qag g s = qag f s := by
 obtain ⟨hok, l, hl⟩ := qcp hs
 obtain ⟨h1, h2, h3⟩ := h (s, l) hl (qad8 hok hl)
 exact ⟨h2, qaa8 h1 h2 h3⟩
theorem qaba {f g : Fsd} {s : List UInt8} (h1 : qa0 f s = 0) (h2 : qa0 g s = 0) (h : qag g s = qag f s) : qbn g s = qbn f s ∧ qan g s = qan f s ∧ qci g s = qci f s := by
 have e : qbn g s = qbn f s := by unfold qbn; rw [h, h1, h2]
 refine ⟨e, ?_, ?_⟩
 ·unfold qan; rw [e, h]
 ·unfold qci; rw [e, h]
theorem qabb (l : List (List UInt8)) (b : List UInt8) (h : 0 < l.length) : (l.set 0 b).headD [] = b ∧ (l.set 0 b).tail = l.tail := by
 cases l with
 | nil => simp at h
 | cons a t => exact ⟨rfl, rfl⟩
theorem new_ok {f : Fsd} {s : List UInt8} {n : Int} (h : (newW f s n).2.2 = 0) : ∃ (y : Fsd) (g : Nat), newW f s n = (y, (s, g, 0, 0, 0, 0), 0) ∧ okFs f ∧ okFs y ∧ qa0 y s = 0 ∧ qbn y s = 0 ∧ qan y s = (s, g, 0, 0, 0, 0) ∧ qci y s = [] ∧ ((qag y s).length : Int) = n ∧ 2 ≤ n ∧ n ≤ 4096 ∧ g < 4294967296 := by
 unfold newW at h ⊢
 by_cases h0 : fsE f = 0
 ·rw [if_neg (fun e => e h0)] at h ⊢
  by_cases h1 : n < 2 ∨ 4096 < n
  ·rw [if_pos h1] at h; cases h
  ·rw [if_neg h1] at h ⊢
   by_cases h2 : (qa4 f s n).2 = 0
   ·rw [if_neg (fun e => e h2)] at h ⊢
    obtain ⟨c0, c1, c2, c3, c4, _⟩ := qjb h2
    obtain ⟨D, hD⟩ : ∃ D, D = (qa4 f s n).1 := ⟨_, rfl⟩
    have cD : okFs D ∧ qa0 D s = 0 ∧ qjt D s = n := by rw [hD, c1]; exact ⟨c2, c3, c4⟩
    rw [← hD] at h ⊢
    by_cases h3 : qcr (qag D s) = 4294967295
    ·rw [if_pos h3] at h; cases h
    ·rw [if_neg h3] at h ⊢
     by_cases h4 : (qcl D s 0 (headW (qcr (qag D s) + 1))).2 = 0
     ·rw [if_neg (fun e => e h4)]
      have hml := qsl (qag D s) 0 (by omega)
      have hml : qcr (qag D s) < 4294967296 := hml
      have hgl : qcr (qag D s) + 1 < 4294967296 := by omega
      obtain ⟨j, e, hj, hset, p1, p2, p3, p4, p5⟩ := qai6 h4
      obtain rfl : j = 0 := by omega
      have hlen : ((qag D s).length : Int) = n := by rw [← qiq cD.2.1]; exact cD.2.2
      obtain ⟨s1, s2⟩ := qabb (qag D s) (headW (qcr (qag D s) + 1)) hj
      refine ⟨_, _, rfl, c0, p1, p4, ?_, ?_, ?_, by rw [hset, List.length_set]; exact hlen, by omega, by omega, hgl⟩
      ·exact qkc p4 (by rw [hset, List.length_set]; omega) (by rw [hset, s1]; exact qqt hgl (by omega))
      all_goals
       have h0 := qkc p4 (by rw [hset, List.length_set]; omega) (by rw [hset, s1]; exact qqt hgl (by omega))
       obtain ⟨_, _, _, o1, o2⟩ := qc8 h0
       have hlo := qaad (qag D s).tail (qcr (qag D s) + 1) hgl (fun b hb => by
        have := (qaac (qag D s) 0).2 b (List.mem_of_mem_tail hb)
        have : genF b ≤ qcr (qag D s) := this
        omega)
      ·rw [o1, hset]
       unfold logW
       rw [s1, s2, qlx hgl, hlo.1]
       have h9 := hlo.2
       rw [hlo.1] at h9
       rw [h9]; rfl
      ·rw [o2, hset]
       unfold recL
       rw [s1, s2, qlx hgl, hlo.1]; rfl
     ·rw [if_pos h4] at h; exact absurd h h4
   ·rw [if_pos h2] at h; exact absurd h h2
 ·rw [if_pos h0] at h; exact absurd h h0
theorem qiu {f : Fsd} (hok : okFs f) : qe7 f = ((((f.1.1, f.1.2.1, []) : Dk), f.2), 0) ∧ okFs (((f.1.1, f.1.2.1, []) : Dk), f.2) := by
 have e : qe7 f = ((((f.1.1, f.1.2.1, []) : Dk), f.2), 0) := by rw [qoh, if_neg (by rw [qd2 hok]; simp)]
 refine ⟨e, ?_⟩
 have hd := (qao hok).1
 have hd2 : okD (f.1.1, f.1.2.1, []) = true := by
  rw [qb4] at hd ⊢
  obtain ⟨a, b, c, d, _, g, _⟩ := hd
  exact ⟨a, b, c, d, by simp, g, by simp⟩
 exact qll hok hd2 rfl (fun _ _ => rfl) hok.2.2.1 hok.2.2.2.2.2
theorem qwq {f : Fsd} {s : List UInt8} {l : List Ex} {d : Dk} {G : Nat} (hok : okFs f) (hl : (s, l) ∈ f.2.2.1) (hl2 : (s, l) ∈ f.2.2.2) (hz : okFs (d, G, f.2.2.2, f.2.2.2)) :
  qa0 f s = 0 ∧ qa0 (d, G, f.2.2.2, f.2.2.2) s = 0 ∧ bloL (d, G, f.2.2.2, f.2.2.2) s = bloL f s := by
 have h1 := qdc hok hl
 have h2 := qdc hz (g := (s, l)) hl2
 exact ⟨h1.2.2.2.2, h2.2.2.2.2, h2.2.2.2.1.trans h1.2.2.2.1.symm⟩
theorem qkd {l : List (List UInt8)} (h : 0 < l.length) : l.headD [] = l[0] := by
 cases l with
 | nil => simp at h
 | cons a t => rfl
theorem drop_at {T : List (List UInt8)} {a i : Nat} (h : a ≤ i) (hi : i < T.length) (h2 : i - a < (T.drop a).length) : (T.drop a)[i - a] = T[i] := by
 have e : a + (i - a) = i := by omega
 simp only [List.getElem_drop, e]
theorem qq4 {L rows : List (List UInt8)} {K : List Bool} {B : Nat} (h : 0 < L.length) : (layL L (1 + B) rows K).headD [] = L.headD [] ∧ (layL L (1 + B) rows K).tail = layL L.tail B rows K := by
 have hl := qb3 L (1 + B) rows K
 have h0 : 0 < (layL L (1 + B) rows K).length := by omega
 constructor
 ·have e1 := qkd h0
  have e2 := qkd h
  rw [e1, e2, qdx _ _ _ _ _ h, if_neg (by omega)]
 ·apply List.ext_getElem
  ·rw [List.length_tail, qb3, qb3, List.length_tail]
  ·intro i h1 h2
   rw [qb3, List.length_tail] at h2
   rw [List.getElem_tail, qdx _ _ _ _ _ (by omega), qdx _ _ _ _ _ (by rw [List.length_tail]; omega), List.getElem_tail]
   have ec : i + 1 - (1 + B) = i - B := by omega
   rw [ec]
   by_cases hc : B ≤ i ∧ i - B < rows.length ∧ K.getD (i - B) false = true
   ·rw [if_pos hc, if_pos ⟨by omega, hc.2⟩]
   ·rw [if_neg hc, if_neg (fun h => hc ⟨by omega, h.2⟩)]
theorem qus (g S : Nat) : ∀ (l : List (List UInt8)) (m : Nat), m ≤ S → (∀ b ∈ l, genF b = g → qbv b ≤ S ∧ qec b ≤ S) → l.foldl (gmax g) m ≤ S
 | [], m, hm, _ => hm
 | b :: l, m, hm, h => by
  rw [List.foldl_cons]
  refine qus g S l _ ?_ (fun c hc => h c (List.mem_cons_of_mem _ hc))
  unfold gmax
  split
  ·rename_i hb
   have := h b (List.mem_cons_self ..) hb
   omega
  ·exact hm
theorem qai7 {s : List UInt8} {L : List (List UInt8)} {r : List UInt8} {K : List Bool} (h2 : 2 ≤ L.length) (h4 : L.length ≤ 4096) (hh : qgx (L.headD [])) (hn : qce (logW s L) r = 0) (hf : (rowB (hdW (logW s L)) r).length ≤ L.length - 1 - (logW s L).2.2.2.2.2) :
  recL (layL L (1 + (logW s L).2.2.2.2.2) (rowB (hdW (logW s L)) r) K) = (if allK K (rowB (hdW (logW s L)) r).length then recL L ++ [r] else recL L) ∧
  (logW s (layL L (1 + (logW s L).2.2.2.2.2) (rowB (hdW (logW s L)) r) K)).2.2.1 = (if allK K (rowB (hdW (logW s L)) r).length then (logW s L).2.2.1 + 1 else (logW s L).2.2.1) ∧
  (logW s (layL L (1 + (logW s L).2.2.2.2.2) (rowB (hdW (logW s L)) r) K)).2.2.2.2.2 = (if allK K (rowB (hdW (logW s L)) r).length then (logW s L).2.2.2.2.2 + (rowB (hdW (logW s L)) r).length else (logW s L).2.2.2.2.2) ∧
  (logW s (layL L (1 + (logW s L).2.2.2.2.2) (rowB (hdW (logW s L)) r) K)).2.1 = (logW s L).2.1 ∧
  max (logW s (layL L (1 + (logW s L).2.2.2.2.2) (rowB (hdW (logW s L)) r) K)).2.2.2.1 (logW s (layL L (1 + (logW s L).2.2.2.2.2) (rowB (hdW (logW s L)) r) K)).2.2.2.2.1 ≤ max (logW s L).2.2.2.1 (logW s L).2.2.2.2.1 + 1 := by
 obtain ⟨e1, e2⟩ := qq4 (L := L) (rows := rowB (hdW (logW s L)) r) (K := K) (B := (logW s L).2.2.2.2.2) (by omega)
 obtain ⟨g, hg⟩ : ∃ g, g = genF (L.headD []) := ⟨_, rfl⟩
 have hgl : g < 4294967296 := by rw [hg]; exact qlt _
 obtain ⟨T, hT⟩ : ∃ T, T = L.tail := ⟨_, rfl⟩
 have hlog : logW s L = (s, g, (logO g T).length, endO 0 (logO g T), qb1 g (T.drop (sumO (logO g T))), sumO (logO g T)) := by unfold logW; rw [← hg, ← hT]
 have hT1 : T.length = L.length - 1 := by rw [hT, List.length_tail]
 obtain ⟨M, hM⟩ : ∃ M, M = max (endO 0 (logO g T)) (qb1 g (T.drop (sumO (logO g T)))) := ⟨_, rfl⟩
 have hhd : hdW (logW s L) = (g, (logO g T).length + 1, M + 1, endO 0 (logO g T)) := by rw [hlog, hM]; rfl
 have hn1 : r.length ≤ 16384 ∧ M ≠ 4294967295 ∧ frmE (g, (logO g T).length + 1, M + 1, endO 0 (logO g T)) r = 0 := by
  have h9 := hn
  unfold qce at h9
  rw [hhd, hlog] at h9
  by_cases a : 16384 < r.length
  ·rw [if_pos a] at h9; cases h9
  ·rw [if_neg a] at h9
   by_cases b : M = 4294967295
   ·rw [if_pos (by rw [← hM]; exact b)] at h9; cases h9
   ·rw [if_neg (by rw [← hM]; exact b)] at h9
    exact ⟨by omega, b, h9⟩
 have hel := qio g (T.length + 1) 1 0 T (by omega)
 have hel : endO 0 (logO g T) < 4294967296 := hel
 have hgr := qom g (T.drop (sumO (logO g T))) 0 (by omega)
 have hgr : qb1 g (T.drop (sumO (logO g T))) < 4294967296 := hgr
 have hMl : M + 1 < 4294967296 := by have := hn1.2.1; omega
 rw [hhd, hlog] at hf ⊢
 rw [hhd, hlog] at e1 e2
 dsimp only at hf e1 e2 ⊢
 have htorn := qaem (keep := K) hgl hMl (l := T) (salt := M + 1) (r := r) (by omega) (by omega) hn1.2.2 (by omega)
 obtain ⟨rows, hrows⟩ : ∃ rows, rows = rowB (g, (logO g T).length + 1, M + 1, endO 0 (logO g T)) r := ⟨_, rfl⟩
 rw [← hrows] at htorn hf e1 e2 ⊢
 have hgen : genF ((layL L (1 + sumO (logO g T)) rows K).headD []) = g := by rw [e1, hg]
 have hnew : logW s (layL L (1 + sumO (logO g T)) rows K) = (s, g, (logO g (layL T (sumO (logO g T)) rows K)).length, endO 0 (logO g (layL T (sumO (logO g T)) rows K)), qb1 g ((layL T (sumO (logO g T)) rows K).drop (sumO (logO g (layL T (sumO (logO g T)) rows K)))), sumO (logO g (layL T (sumO (logO g T)) rows K))) := by
  unfold logW; rw [hgen, e2, ← hT]
 have hrec : recL (layL L (1 + sumO (logO g T)) rows K) = (logO g (layL T (sumO (logO g T)) rows K)).map (·.1) := by unfold recL; rw [hgen, e2, ← hT]
 have hrec0 : recL L = (logO g T).map (·.1) := by unfold recL; rw [← hg, ← hT]
 have hgm : ∀ c, sumO (logO g T) ≤ c → qb1 g ((layL T (sumO (logO g T)) rows K).drop c) ≤ M + 1 := by
  intro c hc
  refine qus g (M + 1) _ 0 (Nat.zero_le _) (fun b hb hbg => ?_)
  obtain ⟨i, hi, rfl⟩ := List.getElem_of_mem hb
  rw [List.length_drop, qb3] at hi
  rw [List.getElem_drop] at hbg ⊢
  rw [qdx _ _ _ _ _ (by omega)] at hbg ⊢
  by_cases hq : sumO (logO g T) ≤ c + i ∧ c + i - sumO (logO g T) < rows.length ∧ K.getD (c + i - sumO (logO g T)) false = true
  ·rw [if_pos hq]
   have hj := hq.2.1
   have e9 : rows.getD (c + i - sumO (logO g T)) [] = rows[c + i - sumO (logO g T)] := by rw [List.getD_eq_getElem?_getD, List.getElem?_eq_getElem hj]; rfl
   rw [e9]
   simp only [hrows, qe3]
   rw [qfm _ _ _ _ hMl, qm5 _ _ _ _ hel]
   constructor
   ·exact Nat.le_refl _
   ·show endO 0 (logO g T) ≤ M + 1; omega
  ·rw [if_neg hq] at hbg ⊢
   have hd := drop_at (T := T) (a := sumO (logO g T)) (i := c + i) (by omega) (by omega) (by rw [List.length_drop]; omega)
   have h9 := qt9 g (T.drop (sumO (logO g T))) (c + i - sumO (logO g T)) (by rw [List.length_drop]; omega) (by rw [hd]; exact hbg)
   rw [hd] at h9
   omega
 rw [hnew, hrec, hrec0, htorn]
 by_cases hk : allK K rows.length = true
 ·rw [if_pos hk, if_pos hk, if_pos hk, if_pos hk]
  refine ⟨by simp, by simp, by rw [qes], rfl, ?_⟩
  rw [qgu, qes]
  refine Nat.le_trans (Nat.max_le.2 ⟨?_, ?_⟩) (show M + 1 ≤ _ by rw [hM]; exact Nat.le_refl _)
  ·exact Nat.le_refl _
  ·exact hgm _ (by omega)
 ·rw [if_neg hk, if_neg hk, if_neg hk, if_neg hk]
  refine ⟨rfl, rfl, rfl, rfl, ?_⟩
  refine Nat.le_trans (Nat.max_le.2 ⟨?_, ?_⟩) (show M + 1 ≤ _ by rw [hM]; exact Nat.le_refl _)
  ·show endO 0 (logO g T) ≤ M + 1; omega
  ·exact hgm _ (Nat.le_refl _)
structure AppI (f : Fsd) (s : List UInt8) (r : List UInt8) : Prop where
 ok : okFs f
 op : qbn f s = 0
 wait : f.1.2.1 = []
 done : f.1.2.2.length ≤ 60000
 nx : qce (qan f s) r = 0
 fit : ((qb0 (qan f s) r).length : Int) ≤ behN f (qan f s)
def psW (f : Fsd) (s : List UInt8) (r : List UInt8) : List Pu := pW f s (1 + (qan f s).2.2.2.2.2) (qb0 (qan f s) r)
theorem ql1 {f : Fsd} {s : List UInt8} (h : qbn f s = 0) : (qan f s).1 = s := by rw [(qc8 h).2.2.2.1]; rfl
theorem qke {f : Fsd} {s : List UInt8} (h : qbn f s = 0) : behE f (qan f s) = 0 ∧ behN f (qan f s) = ((qag f s).length : Int) - 1 - (qan f s).2.2.2.2.2 ∧ (qan f s).2.2.2.2.2 ≤ (qag f s).length - 1 := by
 have hn := ql1 h
 have e : behE f (qan f s) = 0 := by unfold behE; rw [hn, if_neg (fun e => e h), if_neg (fun e => e rfl)]
 refine ⟨e, by unfold behN; rw [if_neg (fun h => h e), hn], ?_⟩
 rw [(qc8 h).2.2.2.1]
 exact (qoq s (qag f s) (qcj _ _)).2.2.2.2
theorem qut {W : Wl} {r : List UInt8} (h : qce W r = 0) : qb0 W r = rowB (hdW W) r ∧ (qb0 W r).length ≤ 154 ∧ ∀ b ∈ qb0 W r, b.length = 128 := by
 have e : qb0 W r = rowB (hdW W) r := by unfold qb0; rw [if_neg (fun e => e h)]
 have hr : r.length ≤ 16384 := by
  unfold qce at h
  split at h
  ·cases h
  ·omega
 refine ⟨e, by rw [e, qdm]; exact qil _ hr, ?_⟩
 rw [e]
 intro b hb
 obtain ⟨i, hi, rfl⟩ := List.getElem_of_mem hb
 rw [qe3]; exact qz3 _ _ _ _
theorem qabc {f : Fsd} {s r : List UInt8} (h : AppI f s r) : appX f (qan f s) r = (zW f (psW f s r), 0) ∧ okFs (zW f (psW f s r)) ∧ (∀ p ∈ psW f s r, putE (mny f.1) p = 0 ∧ 34 ≤ p.1) ∧ (psW f s r).length ≤ 154 ∧ (psW f s r).length = (qb0 (qan f s) r).length := by
 obtain ⟨b1, b2, b3⟩ := qke h.op
 obtain ⟨n1, n2, n3⟩ := qut h.nx
 obtain ⟨o1, o2, _⟩ := qc8 h.op
 have hfit := h.fit
 rw [b2] at hfit
 have hat : 1 + (qan f s).2.2.2.2.2 + (qb0 (qan f s) r).length ≤ (bloL f s).length := by rw [← qc7 o1]; omega
 have hpl := qqv f s (1 + (qan f s).2.2.2.2.2) (qb0 (qan f s) r)
 have hput := qud h.ok o1 n3 hat (by rw [h.wait]; simp; omega) (by have := h.done; omega) _ (Nat.le_refl _)
 have htk : (pW f s (1 + (qan f s).2.2.2.2.2) (qb0 (qan f s) r)).take (qb0 (qan f s) r).length = psW f s r := by
  unfold psW; rw [List.take_of_length_le (by omega)]
 rw [htk] at hput
 have hlen : (psW f s r).length = (qb0 (qan f s) r).length := hpl
 obtain ⟨s1, s2⟩ := qaeq hput.2 (by rw [hlen]; have := h.done; omega)
 refine ⟨?_, s2, pW_in o1 n3 hat, by omega, hlen⟩
 unfold appX
 rw [if_neg (fun e => e b1), if_neg (fun e => e h.nx), if_neg (by rw [b2]; omega), ql1 h.op]
 have ei : 1 + ((qan f s).2.2.2.2.2 : Int) = ((1 + (qan f s).2.2.2.2.2 : Nat) : Int) := by omega
 rw [ei]
 unfold qet
 rw [hput.1]
 dsimp only
 rw [if_neg (by simp), s1, if_neg (by simp)]
theorem quu {f z : Fsd} {s r : List UInt8} {K : List Bool} {A : List Ac} (h : AppI f s r) (hz : qa0 z s = 0) (hb : bloL z s = bloL f s) (hd : z.1 = (qcb f.1.1 (kept (psW f s r) K), [], A)) :
  qbn z s = 0 ∧ qci z s = (if allK K (psW f s r).length then qci f s ++ [r] else qci f s) ∧
  (qan z s).2.2.1 = (if allK K (psW f s r).length then (qan f s).2.2.1 + 1 else (qan f s).2.2.1) ∧
  (qan z s).2.2.2.2.2 = (if allK K (psW f s r).length then (qan f s).2.2.2.2.2 + (psW f s r).length else (qan f s).2.2.2.2.2) ∧
  (qan z s).2.1 = (qan f s).2.1 ∧ max (qan z s).2.2.2.1 (qan z s).2.2.2.2.1 ≤ max (qan f s).2.2.2.1 (qan f s).2.2.2.2.1 + 1 ∧ (qag z s).length = (qag f s).length := by
 obtain ⟨b1, b2, b3⟩ := qke h.op
 obtain ⟨n1, n2, n3⟩ := qut h.nx
 obtain ⟨o1, o2, o3, o4, o5⟩ := qc8 h.op
 have hlen := (qabc h).2.2.2.2
 have hfit := h.fit
 rw [b2] at hfit
 have hat : 1 + (qan f s).2.2.2.2.2 + (qb0 (qan f s) r).length ≤ (bloL f s).length := by rw [← qc7 o1]; omega
 have hbl := qaak (K := K) (A := A) o1 n3 hat h.wait hz hb hd
 have hbz : (qag z s).length = (qag f s).length := by rw [hbl, qb3]
 have hlay := qai7 (s := s) (L := qag f s) (r := r) (K := K) o2 (qcj _ _) o3 (by rw [← o4]; exact h.nx) (by rw [← o4, ← n1]; omega)
 rw [← o4, ← n1] at hlay
 have hhd := (qq4 (L := qag f s) (rows := qb0 (qan f s) r) (K := K) (B := (qan f s).2.2.2.2.2) (by omega)).1
 have hop : qbn z s = 0 := qkc hz (by rw [hbz]; exact o2) (by rw [hbl, hhd]; exact o3)
 obtain ⟨_, _, _, p4, p5⟩ := qc8 hop
 rw [p4, p5, hbl, hlen, o5]
 refine ⟨hop, hlay.1, hlay.2.1, hlay.2.2.1, hlay.2.2.2.1, hlay.2.2.2.2, qb3 _ _ _ _⟩
end Go.Proofs.YtipokepnhjlgdaaGreat
