/-
  What is read in rows of bytes, writes, acts, files and extents stays, where only variables of files on a disk, and rows of directories, are written.
-/
import Derived.Test.YtipokepnhjlgdaaGreatMathW4
import Derived.Test.YtipokepnhjlgdaaGreatWal7
namespace Go.Proofs.YtipokepnhjlgdaaGreat
open Go.RowKit
set_option linter.unusedVariables false
set_option linter.unusedSimpArgs false
theorem qq5 : ∀ (ps : List Pu) (d : Dk), d.2.1.length + ps.length ≤ 65536 → d.2.2.length + ps.length ≤ 65536 → qa5 d (acW ps) = some (d.1, d.2.1 ++ ps, d.2.2 ++ acW ps)
 | [], d, _, _ => by simp [qa5, acW]
 | p :: ps, d, h1, h2 => by
  rw [List.length_cons] at h1 h2
  have e1 : oneD d (false, p) = some (d.1, d.2.1 ++ [p], d.2.2 ++ [(false, p)]) := by
   unfold oneD
   rw [if_neg (by show ¬ (65536 ≤ d.2.2.length ∨ (false = false ∧ 65536 ≤ d.2.1.length)); omega), if_neg (by simp)]
  have e2 : acW (p :: ps) = (false, p) :: acW ps := rfl
  rw [e2, qa5, e1]
  have ih := qq5 ps (d.1, d.2.1 ++ [p], d.2.2 ++ [(false, p)]) (by simp; omega) (by simp; omega)
  show qa5 (d.1, d.2.1 ++ [p], d.2.2 ++ [(false, p)]) (acW ps) = _
  rw [ih]
  simp
theorem quv (n : Nat) : allK (List.replicate n true) n = true := by
 rw [qon]
 intro i hi
 rw [List.getD_eq_getElem?_getD, List.getElem?_replicate, if_pos hi]; rfl
theorem qabd {f : Fsd} (hW : f.1.2.1 = []) (ps : List Pu) : (zW f ps).1 = (qcb f.1.1 (kept ps (List.replicate ps.length true)), [], f.1.2.2 ++ acW ps ++ [(true, 0, [])]) := by
 unfold zW
 rw [hW, quf]; rfl
theorem qabe {d : Dk} (h : d.2.2.length < 65536) : qa5 d [(true, 0, [])] = some (qcb d.1 d.2.1, [], d.2.2 ++ [(true, 0, [])]) := by
 rw [qd3]
 unfold oneD
 rw [if_neg (by show ¬ (65536 ≤ d.2.2.length ∨ (true = false ∧ _)); simp; omega), if_pos rfl]
theorem qae4 {f : Fsd} {ps : List Pu} (hok : okFs f) (hW : f.1.2.1 = []) (hA : f.1.2.2 = []) (hps : ∀ p ∈ ps, putE (mny f.1) p = 0 ∧ 34 ≤ p.1) (hn : ps.length ≤ 60000) (hg : okFs (zW f ps)) (many : Int) (K : List Bool) :
  ((many < 0 ∨ ((ps.length + 1 : Nat) : Int) < many) ∧ qd6 f (zW f ps) many K = (dz, 2)) ∨
  (0 ≤ many ∧ many ≤ ((ps.length + 1 : Nat) : Int) ∧ ∃ K' : List Bool, qd6 f (zW f ps) many K = ((qcb f.1.1 (kept ps K'), [], []), 0) ∧ okFs ((qcb f.1.1 (kept ps K'), [], []), f.2.1, f.2.2.2, f.2.2.2) ∧ qd4 (qcb f.1.1 (kept ps K'), [], []) = (((qcb f.1.1 (kept ps K'), [], []), f.2.1, f.2.2.2, f.2.2.2), 0) ∧ (many = ((ps.length + 1 : Nat) : Int) → allK K' ps.length = true)) := by
 have hd := (qao hok).1
 have hacts : (zW f ps).1.2.2 = acW ps ++ [(true, 0, [])] := by unfold zW; rw [hA]; rfl
 have hal : (acW ps ++ [((true, 0, []) : Ac)]).length = ps.length + 1 := by rw [List.length_append, qh0]; rfl
 have hact : ∀ a ∈ acW ps ++ [((true, 0, []) : Ac)], actE (mny f.1) a = 0 := by
  intro a ha
  rcases List.mem_append.1 ha with ha | ha
  ·unfold acW at ha
   obtain ⟨p, hp, rfl⟩ := List.mem_map.1 ha
   exact (hps p hp).1
  ·rw [List.mem_singleton.1 ha]; exact qbr _
 have hwr : ∀ j, j ≤ ps.length → qa5 f.1 (acW (ps.take j)) = some (f.1.1, ps.take j, acW (ps.take j)) := by
  intro j hj
  have := qq5 (ps.take j) f.1 (by rw [hW, List.length_take]; simp; omega) (by rw [hA, List.length_take]; simp; omega)
  rw [this, hW, hA]; rfl
 have hall : qa5 f.1 (acW ps ++ [(true, 0, [])]) = some (zW f ps).1 := by
  have h1 := hwr ps.length (Nat.le_refl _)
  rw [List.take_length] at h1
  rw [qbz, h1]
  show qa5 (f.1.1, ps, acW ps) [(true, 0, [])] = _
  rw [qabe (by show (acW ps).length < 65536; rw [qh0]; omega)]
  unfold zW; rw [hW, hA]; rfl
 have e0 : doD f.1 (acW ps ++ [(true, 0, [])]) ((acW ps ++ [((true, 0, []) : Ac)]).length : Nat) = ((zW f ps).1, 0) := qxo (m := (acW ps ++ [((true, 0, []) : Ac)]).length) hd hact (Nat.le_refl _) (by rw [List.take_length]; exact hall)
 have e1 : qd6 f (zW f ps) many K = if many < 0 ∨ ((ps.length + 1 : Nat) : Int) < many then (dz, 2) else qdy (doD f.1 (acW ps ++ [(true, 0, [])]) many).1 K := by
  unfold qd6
  rw [hacts, if_neg (by rw [qd2 hok, qd2 hg, hA]; simp), if_neg (by rw [e0]; simp), hal]
 by_cases hm : many < 0 ∨ ((ps.length + 1 : Nat) : Int) < many
 ·rw [if_pos hm] at e1
  exact .inl ⟨hm, e1⟩
 ·rw [if_neg hm] at e1
  obtain ⟨j, rfl⟩ : ∃ j : Nat, many = j := ⟨many.toNat, by omega⟩
  refine .inr ⟨by omega, by omega, ?_⟩
  by_cases hj : j ≤ ps.length
  ·have htk : (acW ps ++ [((true, 0, []) : Ac)]).take j = acW (ps.take j) := by
    rw [List.take_append_of_le_length (by rw [qh0]; exact hj), qaep]
   have hy := hwr j hj
   have hya : ∀ a ∈ acW (ps.take j), actE (mny f.1) a = 0 := fun a ha => hact a (by rw [← htk] at ha; exact List.mem_of_mem_take ha)
   obtain ⟨y1, y2, _⟩ := qno _ _ _ hd hya hy
   have e2 : doD f.1 (acW ps ++ [(true, 0, [])]) j = ((f.1.1, ps.take j, acW (ps.take j)), 0) := qxo (m := j) hd hact (by rw [hal]; omega) (by rw [htk]; exact hy)
   have e3 : qdy (f.1.1, ps.take j, acW (ps.take j)) K = (qlr (f.1.1, ps.take j, acW (ps.take j)) K, 0) := by unfold qdy; rw [if_neg (by rw [qez y1]; decide)]
   have e4 : qlr (f.1.1, ps.take j, acW (ps.take j)) K = (qcb f.1.1 (kept ps (K.take j)), [], []) := by
    show (qcb f.1.1 (kept (ps.take j) K), [], []) = _
    rw [que]
   obtain ⟨z1, z2⟩ := qql (f := f) (y := (f.1.1, ps.take j, acW (ps.take j))) K hok y1 y2 (fun _ _ => rfl) (by
    intro p hp hs
    have := (hps p (List.mem_of_mem_take hp)).2
    unfold qls at hs
    omega)
   rw [e4] at z1 z2
   rw [e2, e3, e4] at e1
   exact ⟨K.take j, e1, z1, z2, fun h => by omega⟩
  ·obtain rfl : j = ps.length + 1 := by omega
   have e2 : doD f.1 (acW ps ++ [(true, 0, [])]) ((ps.length + 1 : Nat) : Int) = ((zW f ps).1, 0) := by rw [← hal]; exact e0
   have hdz := (qao hg).1
   have e3 : qdy (zW f ps).1 K = (qlr (zW f ps).1 K, 0) := by unfold qdy; rw [if_neg (by rw [qez hdz]; decide)]
   have e4 : qlr (zW f ps).1 K = (qcb f.1.1 (kept ps (List.replicate ps.length true)), [], []) := by
    rw [qabd hW]
    show (qcb _ (kept [] K), [], []) = _
    have : kept [] K = [] := by cases K <;> rfl
    rw [this]; rfl
   obtain ⟨z1, z2⟩ := qz1 K hg
   rw [e4] at z1 z2
   rw [e2, e3, e4] at e1
   exact ⟨List.replicate ps.length true, e1, z1, z2, fun _ => quv _⟩
theorem qabf {f : Fsd} {s r : List UInt8} (h : AppI f s r) : ∃ z : Fsd, z = zW f (psW f s r) ∧ appW f (qan f s) r = (z, qan z s, 0) ∧ okFs z ∧ qbn z s = 0 ∧ qci z s = qci f s ++ [r] ∧ (qan z s).2.2.1 = (qan f s).2.2.1 + 1 ∧ (qan z s).2.2.2.2.2 = (qan f s).2.2.2.2.2 + (psW f s r).length ∧ (qan z s).2.1 = (qan f s).2.1 ∧ max (qan z s).2.2.2.1 (qan z s).2.2.2.2.1 ≤ max (qan f s).2.2.2.1 (qan f s).2.2.2.2.1 + 1 ∧ (qag z s).length = (qag f s).length ∧ z.2 = f.2 ∧ z.1.2.1 = [] ∧ z.1.2.2.length = f.1.2.2.length + (psW f s r).length + 1 := by
 obtain ⟨a1, a2, a3, a4, a5⟩ := qabc h
 obtain ⟨o1, _⟩ := qc8 h.op
 have hz : qa0 (zW f (psW f s r)) s = 0 := by rw [qik (f := f) (g := zW f (psW f s r)) rfl h.ok a2]; exact o1
 obtain ⟨k1, k2, k3, k4, k5, k6, k7⟩ := quu (z := zW f (psW f s r)) (K := List.replicate (psW f s r).length true) (A := f.1.2.2 ++ acW (psW f s r) ++ [(true, 0, [])]) h hz (qhy (f := f) (g := zW f (psW f s r)) rfl s).1 (qabd h.wait _)
 rw [quv, if_pos rfl] at k2 k3 k4
 refine ⟨_, rfl, ?_, a2, k1, k2, k3, k4, k5, k6, k7, rfl, rfl, ?_⟩
 ·unfold appW
  rw [a1]
  dsimp only
  rw [if_neg (by simp), ql1 h.op, k1]
 ·show (f.1.2.2 ++ acW (psW f s r) ++ [(true, 0, [])]).length = _
  rw [List.length_append, List.length_append, qh0]; rfl
theorem qabg {f : Fsd} {s : List UInt8} (r : List UInt8) (hok : okFs f) (hop : qbn f s = 0) (hw : f.1.2.1 = []) (hd : f.1.2.2.length ≤ 60000) :
  AppI f s r ∨ (appW f (qan f s) r = (fz, wz, 3) ∧ 16384 < r.length) ∨ (appW f (qan f s) r = (fz, wz, 9) ∧ max (qan f s).2.2.2.1 (qan f s).2.2.2.2.1 = 4294967295) ∨ (appW f (qan f s) r = (fz, wz, 90) ∧ behN f (qan f s) < ((qb0 (qan f s) r).length : Int) ∧ qce (qan f s) r = 0) := by
 obtain ⟨b1, b2, b3⟩ := qke hop
 by_cases h1 : 16384 < r.length
 ·refine .inr (.inl ⟨?_, h1⟩)
  have e : qce (qan f s) r = 3 := by unfold qce; rw [if_pos h1]
  have ex : appX f (qan f s) r = (fz, 3) := by unfold appX; rw [if_neg (fun e => e b1), if_pos (by rw [e]; decide), e]
  unfold appW; rw [ex, if_pos (by show ¬ (3 : Int) = 0; decide)]
 ·by_cases h2 : max (qan f s).2.2.2.1 (qan f s).2.2.2.2.1 = 4294967295
  ·refine .inr (.inr (.inl ⟨?_, h2⟩))
   have e : qce (qan f s) r = 9 := by unfold qce; rw [if_neg h1, if_pos h2]
   have ex : appX f (qan f s) r = (fz, 9) := by unfold appX; rw [if_neg (fun e => e b1), if_pos (by rw [e]; decide), e]
   unfold appW; rw [ex, if_pos (by show ¬ (9 : Int) = 0; decide)]
  ·have hg : (qan f s).2.1 ≠ 0 := by
    rw [(qc8 hop).2.2.2.1]; exact (qc8 hop).2.2.1.1
   have e : qce (qan f s) r = 0 := by
    unfold qce; rw [if_neg h1, if_neg h2]
    generalize qan f s = W at *
    exact qz5 (h := hdW W) hg (Nat.succ_ne_zero _) (by omega)
   by_cases h3 : behN f (qan f s) < ((qb0 (qan f s) r).length : Int)
   ·refine .inr (.inr (.inr ⟨?_, h3, e⟩))
    have ex : appX f (qan f s) r = (fz, 90) := by unfold appX; rw [if_neg (fun e => e b1), if_neg (fun h => h e), if_pos h3]
    unfold appW; rw [ex, if_pos (by show ¬ (90 : Int) = 0; decide)]
   ·exact .inl ⟨hok, hop, hw, hd, e, by omega⟩
def ComI (f : Fsd) (s : List UInt8) : Prop := ∃ l, (s, l) ∈ f.2.2.1 ∧ (s, l) ∈ f.2.2.2
theorem qae5 {f : Fsd} {s r : List UInt8} (h : AppI f s r) (hA : f.1.2.2 = []) (hC : ComI f s) (many : Int) (K : List Bool) :
  ((many < 0 ∨ ((zW f (psW f s r)).1.2.2.length : Int) < many) ∧ qd6 f (zW f (psW f s r)) many K = (dz, 2)) ∨
  (0 ≤ many ∧ many ≤ ((zW f (psW f s r)).1.2.2.length : Int) ∧ ∃ z : Fsd, qd6 f (zW f (psW f s r)) many K = (z.1, 0) ∧ qd4 z.1 = (z, 0) ∧ okFs z ∧ z.1.2.1 = [] ∧ z.1.2.2 = [] ∧ ComI z s ∧ qbn z s = 0 ∧ (qci z s = qci f s ∨ qci z s = qci f s ++ [r]) ∧ (many = ((zW f (psW f s r)).1.2.2.length : Int) → qci z s = qci f s ++ [r]) ∧ max (qan z s).2.2.2.1 (qan z s).2.2.2.2.1 ≤ max (qan f s).2.2.2.1 (qan f s).2.2.2.2.1 + 1 ∧ (qag z s).length = (qag f s).length) := by
 obtain ⟨a1, a2, a3, a4, a5⟩ := qabc h
 have hlen : (zW f (psW f s r)).1.2.2.length = (psW f s r).length + 1 := by
  show (f.1.2.2 ++ acW (psW f s r) ++ [(true, 0, [])]).length = _
  rw [List.length_append, List.length_append, qh0, hA]; simp
 rw [hlen]
 rcases qae4 h.ok h.wait hA a3 (by omega) a2 many K with h1 | ⟨m1, m2, K', t1, t2, t3, t4⟩
 ·exact .inl h1
 ·refine .inr ⟨m1, m2, ((qcb f.1.1 (kept (psW f s r) K'), [], []), f.2.1, f.2.2.2, f.2.2.2), t1, t3, t2, rfl, rfl, ?_⟩
  obtain ⟨l, l1, l2⟩ := hC
  obtain ⟨b1, b2, b3⟩ := qwq (s := s) h.ok l1 l2 t2
  obtain ⟨k1, k2, k3, k4, k5, k6, k7⟩ := quu (K := K') (A := []) h b2 b3 rfl
  refine ⟨⟨l, l2, l2⟩, k1, ?_, ?_, k6, k7⟩
  ·rw [k2]; split
   ·exact .inr rfl
   ·exact .inl rfl
  ·intro hm; rw [k2, if_pos (t4 hm)]
theorem qae6 {n : Int} (h1 : 34 < n) (h2 : n ≤ 4096) : ∃ x : List UInt8, qcm n = (((x, [], []), 1, [], []), 0) ∧ okFs ((x, [], []), 1, [], []) ∧ mny (x, [], []) = n.toNat ∧ ∀ k, 34 ≤ k → k < n.toNat → blk x k = List.replicate 128 0 := by
 have hn : (newD n).2 = 0 := by unfold newD; rw [if_neg (by omega)]
 obtain ⟨a, b, c, d, e⟩ := qzk hn h1
 have hs := qlj hn h1
 have hno : qa5 (newD n).1 (qfa 1 [0]) ≠ none := by
  rw [e]
  simp [qfa, qeb, qbf, qa5, oneD]
 cases ho : qa5 (newD n).1 (qfa 1 [0]) with
 | none => exact absurd ho hno
 | some x =>
  rw [ho] at hs
  have hs : qbu (((newD n).1, 0, [], []), 0, []) = ((x, 1, [], []), 0, [0]) := hs
  have hz : qb9 (newD n).1 (0 % 2) = (0, 0) := by
   have hb : blk (newD n).1.1 0 = List.replicate 128 0 := by
    rw [e]
    unfold blk
    rw [List.drop_zero, List.take_replicate, Nat.min_eq_left (by omega)]
   unfold qb9
   rw [hb, qad7]
   rfl
  have hx := qqi (D := []) (g := 0) a b (by rw [e]; intro p hp; cases hp) (by exact qzm b (by omega)) (by decide) (by rw [hz]; exact Nat.le_refl 0) (by rw [qzl]; exact ho)
  obtain ⟨o1, o2, o3, o4⟩ := qi9 a b (by decide : (1 : Nat) ≠ 0) (by simp : ([0] : List UInt8).length ≤ 2048) ho
  have hcl : okD (x.1, [], []) = true := by
   obtain ⟨p1, p2, p3, p4, p5, p6, p7⟩ := (qb4 x).1 o1
   exact (qb4 _).2 ⟨p1, p2, p3, by simp, by simp, by simp, by simp⟩
  refine ⟨x.1, ?_, ?_, ?_, ?_⟩
  ·unfold qcm
   rw [if_neg (by rw [hn]; decide), if_neg (by omega), hs]
   have e2 : qex x = ((x.1, [], []), 0) := by unfold qex; rw [if_neg (by rw [qez o1]; decide), o3]
   unfold qah
   rw [if_pos rfl]
   unfold qe2 qkx endW
   simp only [e2]
   rfl
  ·have := qll (f := (x, 0 + 1, [], [])) (d := (x.1, [], [])) (D := []) hx hcl rfl (fun k _ => rfl) (by intro p hp; cases hp) hx.2.2.2.2.2
   exact this
  ·rw [← c, ← o2]; rfl
  ·intro k hk1 hk2
   have hwl : (qbf [0]).length = 1 := by kernel_rfl
   rw [o4 k (by omega), if_neg (by omega), if_neg (by rw [hwl]; omega), qco a (by omega), e]
   show blk (List.replicate (n.toNat * 128) 0) k = _
   exact qae1 (by omega)
theorem qq6 : ∀ (l : List Ac) (d : Dk), d.2.1.length + l.length ≤ 65536 → d.2.2.length + l.length ≤ 65536 → ∃ x, qa5 d l = some x ∧ x.2.2 = d.2.2 ++ l
 | [], d, _, _ => ⟨d, rfl, by simp⟩
 | a :: l, d, h1, h2 => by
  rw [List.length_cons] at h1 h2
  obtain ⟨y, e, hw, hd⟩ : ∃ y, oneD d a = some y ∧ y.2.1.length ≤ d.2.1.length + 1 ∧ y.2.2 = d.2.2 ++ [a] := by
   unfold oneD
   rw [if_neg (by omega)]
   cases a.1
   ·exact ⟨_, rfl, by simp, rfl⟩
   ·exact ⟨_, rfl, by simp, rfl⟩
  obtain ⟨x, hx, hx2⟩ := qq6 l y (by omega) (by rw [hd, List.length_append, List.length_singleton]; omega)
  refine ⟨x, ?_, by rw [hx2, hd]; simp⟩
  rw [qa5, e]
  exact hx
theorem ql2 {g : Nat} {l : List UInt8} (h : l.length ≤ 2048) : (qfa g l).length ≤ 20 := by
 have hw : ∀ (bl : List (List UInt8)) (n : Int), (qeb n bl).length = bl.length := by
  intro bl
  induction bl with
  | nil => intro n; rfl
  | cons b bl ih => intro n; simp [qeb, ih]
 unfold qfa
 rw [List.length_cons, List.length_append, hw, qcn]
 simp
 omega
theorem qae7 {y : Fsd} (hok : okFs y) (hg : y.2.1 ≠ 4294967295) (hw : y.1.2.1.length ≤ 60000) (hd : y.1.2.2.length ≤ 60000) : ∃ h : Fsd, qc0 y = (h, 0) ∧ okFs h ∧ h.2.2.1 = y.2.2.1 ∧ h.2.2.2 = y.2.2.1 ∧ h.1.2.1 = [] ∧ h.1.2.2.length ≤ y.1.2.2.length + 20 ∧ Like y h [] := by
 have hb : (bytF y.2.2.1).length ≤ 2048 := (qbx hok.2.2.2.2.2).2.2.2.2
 obtain ⟨x, hx, hx2⟩ := qq6 (qfa (y.2.1 + 1) (bytF y.2.2.1)) y.1 (by have := ql2 (g := y.2.1 + 1) hb; omega) (by have := ql2 (g := y.2.1 + 1) hb; omega)
 have e : qc0 y = ((x, y.2.1 + 1, y.2.2.1, y.2.2.1), 0) := by
  rw [qqb]; unfold qad2
  rw [if_neg (by rw [qd2 hok]; simp), if_neg hg, hx]
 obtain ⟨x', c1, c2, c3, c4, c5, c6⟩ := qv6 hok (by rw [e])
 rw [e] at c1
 have : x = x' := by
  have := congrArg (fun q : Fsd × Int => q.1.1) c1
  exact this
 subst this
 exact ⟨_, e, c2, rfl, rfl, c3, by show x.2.2.length ≤ _; rw [hx2, List.length_append]; have := ql2 (g := y.2.1 + 1) hb; omega, c6⟩
def logN : List UInt8 := [108, 111, 103]
def qai8 (N n : Int) : Bool := decide (qbe [] logN = 6) && decide (qd5 34 N [] n = 0) && decide (qa6 [] logN (qck 34 N [] n) N = 0)
theorem qai9 : qai8 64 4 = true := by kernel_rfl
theorem qq7 : ∀ (l : List (List UInt8)), (∀ b ∈ l, genF b = 0) → qcr l = 0
 | [], _ => rfl
 | b :: l, h => by
  have ih := qq7 l (fun c hc => h c (List.mem_cons_of_mem _ hc))
  unfold qcr at ih ⊢
  rw [List.foldl_cons, h b (List.mem_cons_self ..)]
  exact ih
theorem qabh : genF (List.replicate 128 0) = 0 := by kernel_rfl
structure LogI (f : Fsd) (s : List UInt8) (n : Nat) : Prop where
 ok : okFs f
 wait : f.1.2.1 = []
 done : f.1.2.2.length ≤ 1000
 com : ComI f s
 op : qbn f s = 0
 len : (qag f s).length = n
def wl1 : Wl := (logN, 1, 0, 0, 0, 0)
theorem qae8 {N n : Int} (h1 : 34 < N) (h2 : N ≤ 4096) (hn : 2 ≤ n) (hn4 : n ≤ 4096) (hk : qai8 N n = true) : ∃ F y h : Fsd, qcm N = (F, 0) ∧ okFs F ∧ F.2.2.1 = [] ∧ newW F logN n = (y, wl1, 0) ∧ okFs y ∧ qc0 y = (h, 0) ∧ LogI h logN n.toNat ∧ qan h logN = wl1 ∧ qci h logN = [] := by
 obtain ⟨x, f1, f2, f3, f4⟩ := qae6 h1 h2
 obtain ⟨⟨k1, k2⟩, k3⟩ : (qbe [] logN = 6 ∧ qd5 34 N [] n = 0) ∧ qa6 [] logN (qck 34 N [] n) N = 0 := by
  unfold qai8 at hk
  simpa using hk
 obtain ⟨F, hF⟩ : ∃ F : Fsd, F = ((x, [], []), 1, [], []) := ⟨_, rfl⟩
 rw [← hF] at f1 f2
 have hmF : qa7 F = N := by
  rw [qha (qao f2).1, hF]
  show ((mny ((x, [], []) : Dk) : Nat) : Int) = N
  rw [f3]; omega
 have hu : qa3 F = [] := by rw [hF]; kernel_rfl
 have hmk : mkE F logN n = 0 := by
  unfold mkE
  have e9 : F.2.2.1 = [] := by rw [hF]
  rw [e9, hmF, hu, k1, if_neg (by decide), if_neg (by decide), k2, if_neg (by simp), k3]
 have hcr : (qa4 F logN n).2 = 0 := by unfold qa4; rw [hmk, qah3 (qd2 f2)]
 obtain ⟨c0, c1, c2, c3, c4, _⟩ := qjb hcr
 obtain ⟨D, hD⟩ : ∃ D : Fsd, D = (qa4 F logN n).1 := ⟨_, rfl⟩
 have eD : D = (F.1, F.2.1, mkL F logN n, F.2.2.2) := by rw [hD, c1]
 have cD : okFs D ∧ qa0 D logN = 0 ∧ qjt D logN = n := by rw [eD]; exact ⟨c2, c3, c4⟩
 have hD1 : D.1 = (x, [], []) := by rw [eD, hF]
 have hD2 : D.2.1 = 1 := by rw [eD, hF]
 have hlenD : ((qag D logN).length : Int) = n := by rw [← qiq cD.2.1]; exact cD.2.2
 have hmost : qcr (qag D logN) = 0 := by
  refine qq7 _ (fun b hb => ?_)
  obtain ⟨i, hi, rfl⟩ := List.getElem_of_mem hb
  have hi' : i < (bloL D logN).length := by rw [← qc7 cD.2.1]; exact hi
  rw [qhh cD.2.1 hi hi']
  have hr := qcq cD.2.1 _ (List.getElem_mem hi')
  rw [hD1] at hr ⊢
  rw [f3] at hr
  show genF (blk x _) = 0
  rw [f4 _ (by omega) (by omega), qabh]
 obtain ⟨p1, p2⟩ := qaaj (f := D) (s := logN) (i := 0) (b := headW 1) cD.1 cD.2.1 (by rw [← qc7 cD.2.1]; omega) (qqs 1) (by rw [hD1]; simp) (by rw [hD1]; simp)
 obtain ⟨y, hy⟩ : ∃ y : Fsd, y = yW D [((bloL D logN)[0]'(by rw [← qc7 cD.2.1]; omega), headW 1)] := ⟨_, rfl⟩
 rw [← hy] at p1 p2
 have hnew : newW F logN n = (y, wl1, 0) := by
  unfold newW
  rw [if_neg (by rw [qd2 f2]; simp), if_neg (by omega), if_neg (by rw [hcr]; simp), ← hD, hmost, if_neg (by decide)]
  have p1 : qcl D logN 0 (headW (0 + 1)) = (y, 0) := p1
  rw [p1, if_neg (by simp)]
  rfl
 obtain ⟨y', g, n1, n2, n3, n4, n5, n6, n7, n8, n9, n10, n11⟩ := new_ok (f := F) (s := logN) (n := n) (by rw [hnew])
 rw [hnew] at n1
 have ey : y' = y := (congrArg (fun q : Fw => q.1) n1).symm
 have eg : g = 1 := by have := congrArg (fun q : Fw => q.2.1.2.1) n1; exact this.symm
 rw [ey] at n3 n4 n5 n6 n7 n8
 rw [eg] at n6
 have hy1 : y.1.2.1.length = 1 ∧ y.1.2.2.length = 1 ∧ y.2.1 = 1 := by
  rw [hy]
  unfold yW acW
  rw [hD1]
  exact ⟨rfl, rfl, hD2⟩
 obtain ⟨h, m1, m2, m3, m4, m5, m6, m7⟩ := qae7 (y := y) n3 (by rw [hy1.2.2]; decide) (by omega) (by omega)
 obtain ⟨b1, b2⟩ := qaa9 m7 n4
 obtain ⟨o1, o2, o3⟩ := qaba n4 b1 b2
 obtain ⟨_, l, hl⟩ := qcp n4
 refine ⟨F, y, h, f1, f2, by rw [hF], hnew, n3, m1, ⟨m2, m5, by omega, ⟨l, by rw [m3]; exact hl, by rw [m4]; exact hl⟩, by rw [o1]; exact n5, by rw [b2]; omega⟩, by rw [o2, n6]; rfl, by rw [o3, n7]⟩
theorem OwFs.rdx {w : World} {base : Nat} {x : FsV} {f : Fsd} (h : OwFs w base x.val f) : RdX w x f := by
 obtain ⟨x', ex', hx'⟩ := h.form
 have e : x' = x := FsV.ext_val ex'.symm
 subst e
 exact hx'
end Go.Proofs.YtipokepnhjlgdaaGreat
