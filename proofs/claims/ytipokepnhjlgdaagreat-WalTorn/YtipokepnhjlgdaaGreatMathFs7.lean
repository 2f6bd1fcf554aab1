/-
  Plain mathematics of files on a disk: a sync, a commit, how many blocks can be given.
-/
import Derived.Test.YtipokepnhjlgdaaGreatLFs4
namespace Go.Proofs.YtipokepnhjlgdaaGreat
open Go.RowKit
set_option linter.unusedVariables false
set_option linter.unusedSimpArgs false
theorem qv7 (x : Ex) (k : Nat) : (blkX x k).Nodup := by
 unfold blkX
 rw [List.nodup_iff_pairwise_ne, List.pairwise_map]
 exact List.Pairwise.imp (fun h => by omega) List.nodup_range
theorem qoo {l : List Ex} (h : apX l = true) (hp : ∀ x ∈ l, 1 ≤ x.2) : (qay l).Nodup := by
 have h := (qyg l).1 h
 unfold qay
 rw [List.nodup_iff_pairwise_ne, List.pairwise_flatMap]
 refine ⟨fun x _ => qv7 x _, ?_⟩
 refine List.Pairwise.imp ?_ h
 intro x y hm a ha b hb
 unfold blkX at ha hb
 obtain ⟨i, hi, rfl⟩ := List.mem_map.1 ha
 obtain ⟨j, hj, rfl⟩ := List.mem_map.1 hb
 have := List.mem_range.1 hi
 have := List.mem_range.1 hj
 unfold qjt at hm
 simp only [Bool.and_eq_false_iff, decide_eq_false_iff_not] at hm
 omega
theorem qsk (fs : List Fl) : qay (qaz fs) = fs.flatMap fun g => qay g.2 := by
 unfold qay qaz
 rw [List.flatMap_assoc]
theorem qqo {f : Fsd} (h : okFs f) : (f.2.2.1.flatMap fun g => qay g.2).Nodup := by
 rw [← qsk]
 have hm := qfz h
 have := extP_parts.1 hm.2.2.1
 exact qoo this.1 (fun x hx => (qec hm.2.2.1 x hx).2.1)
theorem qhf {f : Fsd} (h : okFs f) {g : Fl} (hg : g ∈ f.2.2.1) : (qay g.2).Nodup := by
 have := qqo h
 rw [List.nodup_iff_pairwise_ne, List.pairwise_flatMap] at this
 exact this.1 g hg
theorem qsl {f : Fsd} (h : okFs f) {g k : Fl} (hg : g ∈ f.2.2.1) (hk : k ∈ f.2.2.1) (hne : g.1 ≠ k.1) {n : Int} (h1 : n ∈ qay g.2) : n ∉ qay k.2 := by
 have hp := qqo h
 rw [List.nodup_iff_pairwise_ne, List.pairwise_flatMap] at hp
 intro h2
 have hs : ∀ a ∈ f.2.2.1, ∀ b ∈ f.2.2.1, a.1 ≠ b.1 → ∀ x ∈ qay a.2, ∀ y ∈ qay b.2, x ≠ y := by
  have := hp.2
  intro a ha b hb hab
  obtain ⟨i, hi, rfl⟩ := List.mem_iff_getElem.1 ha
  obtain ⟨j, hj, rfl⟩ := List.mem_iff_getElem.1 hb
  have hpw := List.pairwise_iff_getElem.1 this
  rcases Nat.lt_trichotomy i j with hij | hij | hij
  ·exact hpw i j hi hj hij
  ·subst hij; exact absurd rfl hab
  ·intro x hx y hy e
   exact hpw j i hj hi hij y hy x hx e.symm
 exact hs g hg k hk hne n h1 n h2 rfl
theorem qzw {f : Fsd} {s : List UInt8} {i : Int} {b : List UInt8} (h : (qcm f s i b).2 = 0) :
  okFs f ∧ ∃ d', qcm f s i b = ((d', f.2), 0) ∧ atE f s i = 0 ∧ oneD f.1 (false, atN f s i, b) = some d' ∧ actE (mny f.1) (false, atN f s i, b) = 0 := by
 rw [qago] at h ⊢
 by_cases h0 : fsE f = 0
 ·have hok := qk0 h0
  rw [if_neg (by rw [h0]; decide)] at h ⊢
  by_cases h1 : atE f s i = 0
  ·rw [if_neg (by rw [h1]; decide)] at h ⊢
   by_cases h2 : (doD f.1 [(false, atN f s i, b)] 1).2 = 0
   ·obtain ⟨a1, a2, a3, a4, x, a5, a6⟩ := qxp h2
    have a7 := a2 (false, atN f s i, b) (by simp)
    refine ⟨hok, x, ?_, h1, ?_, a7⟩
    ·rw [if_neg (by rw [h2]; decide), a6]
    ·have : qa6 f.1 [(false, atN f s i, b)] = some x := a5
     rw [qd5] at this
     exact this
   ·rw [if_pos h2] at h; exact absurd h h2
  ·rw [if_pos h1] at h; exact absurd h h1
 ·rw [if_pos h0] at h; exact absurd h h0
theorem qzx {f : Fsd} {s : List UInt8} {i : Int} (h : okFs f) (ha : atE f s i = 0) : qa3 f s = 0 ∧ ∃ j : Nat, i = j ∧ ∃ hj : j < (bloL f s).length, atN f s i = (bloL f s)[j] := by
 have ha2 := ha
 unfold atE at ha
 by_cases h1 : bloE f s = 0
 ·have hs : qa3 f s = 0 := by unfold qa3; rw [if_neg (by rw [qd3 h]; decide), h1]
  rw [if_neg (by rw [h1]; decide)] at ha
  by_cases h2 : i < 0 ∨ ((bloL f s).length : Int) ≤ i
  ·rw [if_pos h2] at ha; cases ha
  ·refine ⟨hs, i.toNat, by omega, by omega, ?_⟩
   have e : i = (i.toNat : Int) := by omega
   have := (qqn hs (show i.toNat < (bloL f s).length by omega)).2.1
   rw [← e] at this
   exact this
 ·rw [if_pos h1] at ha; exact absurd ha h1
theorem qt4 (F G : Int → List UInt8) (b : List UInt8) : ∀ (l : List Int) (j : Nat) (hj : j < l.length), l.Nodup → (∀ n ∈ l, (F n).length = 128) → (∀ n, G n = if n = l[j] then b else F n) →
  l.flatMap G = (l.flatMap F).take (128 * j) ++ (b ++ (l.flatMap F).drop (128 * j + 128))
 | n :: l, 0, hj, hn, hF, hG => by
  have h1 : G n = b := by rw [hG]; simp
  have h2 : l.flatMap G = l.flatMap F := by
   have hx : ∀ m ∈ l, G m = F m := by
    intro m hm
    rw [hG, if_neg]
    intro e
    have e : m = n := e
    subst e
    exact (List.nodup_cons.1 hn).1 hm
   clear hG hF hn hj h1
   induction l with
   | nil => rfl
   | cons a l ih => rw [List.flatMap_cons, List.flatMap_cons, hx a (List.mem_cons_self ..), ih (fun m hm => hx m (List.mem_cons_of_mem _ hm))]
  rw [List.flatMap_cons, h1, h2, List.flatMap_cons]
  have hl := hF n (List.mem_cons_self ..)
  rw [Nat.mul_zero, List.take_zero, Nat.zero_add, List.nil_append, ← hl, List.drop_left]
 | n :: l, j + 1, hj, hn, hF, hG => by
  have hj' : j < l.length := by simpa using hj
  have ih := qt4 F G b l j hj' (List.nodup_cons.1 hn).2 (fun m hm => hF m (List.mem_cons_of_mem _ hm)) (fun m => by rw [hG]; rfl)
  have h1 : G n = F n := by
   rw [hG, if_neg]
   intro e
   have e : n = l[j] := e
   exact (List.nodup_cons.1 hn).1 (e ▸ List.getElem_mem hj')
  have hl := hF n (List.mem_cons_self ..)
  rw [List.flatMap_cons, h1, ih, List.flatMap_cons]
  have e1 : 128 * (j + 1) = (F n).length + 128 * j := by omega
  have e2 : 128 * (j + 1) + 128 = (F n).length + (128 * j + 128) := by omega
  rw [e2, e1, List.take_length_add_append, List.drop_length_add_append, List.append_assoc]
theorem qop {f : Fsd} {s : List UInt8} {i : Int} {b : List UInt8} (h : (qcm f s i b).2 = 0) :
  okFs (qcm f s i b).1 ∧ (qcm f s i b).1.2 = f.2 ∧ b.length = 128 ∧ qa3 f s = 0 ∧ qa3 (qcm f s i b).1 s = 0 ∧ (∃ j : Nat, i = j ∧ 128 * j + 128 ≤ (qhx f s).length ∧ qhx (qcm f s i b).1 s = (qhx f s).take (128 * j) ++ (b ++ (qhx f s).drop (128 * j + 128))) ∧ getE (qcm f s i b).1 s i = 0 ∧ getL (qcm f s i b).1 s i = b ∧ Like f (qcm f s i b).1 s := by
 obtain ⟨hok, d', e, ha, ho, hact⟩ := qzw h
 rw [e]
 obtain ⟨hs, j, rfl, hj, hN⟩ := qzx hok ha
 obtain ⟨hd, hm34, _, _⟩ := qaq hok
 obtain ⟨o1, o2, _⟩ := qdi hd hact ho
 have hr := qcr hs _ (List.getElem_mem hj)
 have hb : b.length = 128 := by
  have : putE (mny f.1) (atN f s j, b) = 0 := by unfold actE at hact; simpa using hact
  exact (qdb this).2.2
 have hd1 : d'.1 = f.1.1 ∧ d'.2.1 = f.1.2.1 ++ [(atN f s j, b)] := by
  unfold oneD at ho
  split at ho
  ·cases ho
  ·simp only [Bool.false_eq_true, if_false] at ho; cases ho; exact ⟨rfl, rfl⟩
 have hokF : okFs (d', f.2.1, f.2.2.1, f.2.2.2) := qlo hok o1 (by rw [hd1.1]) (fun k _ => by rw [hd1.1]) (by
  intro p hp
  rw [hd1.2] at hp
  rcases List.mem_append.1 hp with hp | hp
  ·exact hok.2.2.1 p hp
  ·rw [List.mem_singleton.1 hp]; show 34 ≤ atN f s j; rw [hN]; exact hr.1) hok.2.2.2.2.2
 have hokF : okFs (d', f.2) := hokF
 have hsF : qa3 (d', f.2) s = 0 := by rw [qil (f := f) (g := (d', f.2)) rfl hok hokF]; exact hs
 have hbl : bloL (d', f.2) s = bloL f s := (qhy (f := f) (g := (d', f.2)) rfl s).1
 have hnow : ∀ k : Nat, k < mny f.1 → nowD d' k = if (k : Int) = atN f s j then b else nowD f.1 k := by
  intro k hk
  have := qfp hd hact ho hk
  rw [qcp o1 (by omega), qcp hd hk] at this
  exact this
 obtain ⟨h0, l, hl⟩ := qcq hs
 have hfi := (qdd hok hl).2.2.2.1
 have hnd : (bloL f s).Nodup := by rw [hfi]; exact qhf hok hl
 refine ⟨hokF, rfl, hb, hs, hsF, ⟨j, rfl, ?_, ?_⟩, ?_, ?_, ?_⟩
 ·unfold qhx
  rw [if_neg (by rw [hs]; decide), qt3 hd _ (qcr hs)]
  omega
 ·unfold qhx
  rw [if_neg (by rw [hsF]; decide), if_neg (by rw [hs]; decide), hbl]
  have hG : ∀ n ∈ bloL f s, nowD d' n.toNat = if n = (bloL f s)[j] then b else nowD f.1 n.toNat := by
   intro n hn
   have := qcr hs n hn
   rw [hnow _ (by omega), hN]
   have e : ((n.toNat : Nat) : Int) = n := by omega
   rw [e]
  have hc : (bloL f s).flatMap (fun n => nowD d' n.toNat) = (bloL f s).flatMap (fun n => if n = (bloL f s)[j] then b else nowD f.1 n.toNat) := by
   have : ∀ (l : List Int), (∀ n ∈ l, n ∈ bloL f s) → l.flatMap (fun n => nowD d' n.toNat) = l.flatMap (fun n => if n = (bloL f s)[j] then b else nowD f.1 n.toNat) := by
    intro l
    induction l with
    | nil => intro _; rfl
    | cons a l ih => intro hx; rw [List.flatMap_cons, List.flatMap_cons, hG a (hx a (List.mem_cons_self ..)), ih (fun m hm => hx m (List.mem_cons_of_mem _ hm))]
   exact this _ (fun n hn => hn)
  show (bloL f s).flatMap (fun n => nowD d' n.toNat) = _
  rw [hc]
  exact qt4 (fun n => nowD f.1 n.toNat) (fun n => if n = (bloL f s)[j] then b else nowD f.1 n.toNat) b (bloL f s) j hj hnd (fun n hn => by have := qcr hs n hn; exact qsj hd (by omega)) (fun n => rfl)
 ·exact (qqn hsF (i := j) (by rw [hbl]; exact hj)).2.2.1
 ·rw [(qqn hsF (i := j) (by rw [hbl]; exact hj)).2.2.2]
  have e : (bloL (d', f.2) s)[j]'(by rw [hbl]; exact hj) = (bloL f s)[j] := by simp only [hbl]
  rw [e]
  show nowD d' _ = b
  rw [hnow _ (by omega), if_pos (by rw [hN]; omega)]
 ·intro g hg hne
  have hsg := (qdd hok hg).2.2.2.2
  have hsg' : qa3 (d', f.2) g.1 = 0 := by rw [qil (f := f) (g := (d', f.2)) rfl hok hokF]; exact hsg
  refine ⟨hsg, hsg', qlr hsg hsg' (qhy (f := f) (g := (d', f.2)) rfl g.1).1 ?_⟩
  intro n hn
  have hrn := qcr hsg n hn
  show nowD d' n.toNat = _
  rw [hnow _ (by omega), if_neg]
  intro e
  rw [hN] at e
  have e : n = (bloL f s)[j] := by omega
  rw [(qdd hok hg).2.2.2.1] at hn
  have hin : n ∈ qay l := by
   have h9 : n ∈ bloL f s := e ▸ List.getElem_mem hj
   have hfi' : bloL f s = qay l := hfi
   rw [hfi'] at h9
   exact h9
  exact qsl hok hg hl hne hn hin
theorem qsm {f g : Fsd} {but : List UInt8} (hf : okFs f) (hg : okFs g) (hd : g.2.2.1 = f.2.2.1) (hb : ∀ k : Nat, 34 ≤ k → k < mny f.1 → nowD g.1 k = nowD f.1 k) : Like f g but := by
 intro x hx _
 have h1 := (qdd hf hx).2.2.2.2
 have h2 : qa3 g x.1 = 0 := by rw [qil hd hf hg]; exact h1
 refine ⟨h1, h2, qlr h1 h2 (qhy hd x.1).1 ?_⟩
 intro n hn
 have := qcr h1 n hn
 exact hb _ (by omega) (by omega)
theorem qt5 {f : Fsd} (h : (qbi f).2 = 0) : okFs f ∧ okFs (qbi f).1 ∧ (qbi f).1.1.2.1 = [] ∧ (qbi f).1.2 = f.2 ∧ Like f (qbi f).1 [] ∧ Like (qbi f).1 f [] := by
 rw [qzt] at h ⊢
 by_cases h0 : fsE f = 0
 ·have hok := qk0 h0
  rw [if_neg (by rw [h0]; decide)] at h ⊢
  by_cases h2 : (doD f.1 [(true, 0, [])] 1).2 = 0
  ·rw [if_neg (by rw [h2]; decide)]
   obtain ⟨a1, a2, a3, a4, x, a5, a6⟩ := qxp h2
   rw [a6]
   have ho : oneD f.1 (true, 0, []) = some x := by
    have : qa6 f.1 [(true, 0, [])] = some x := a5
    rw [qd5] at this
    exact this
   obtain ⟨o1, o2, _⟩ := qdi a1 (qbs _) ho
   obtain ⟨_, hm, _, _⟩ := qaq hok
   have hs := fun n hn => qfe (n := n) a1 (qbs _) rfl ho hn
   have hw : x.2.1 = [] := (hs 0 (by omega)).2
   have hnow : ∀ k : Nat, k < mny f.1 → nowD x k = nowD f.1 k := fun k hk => by
    have := (hs k hk).1
    rw [qcp o1 (by omega), qcp a1 hk] at this
    exact this
   have hlow : ∀ k, k < 34 → blk x.1 k = blk f.1.1 k := fun k hk => by
    have h1 : nowD x k = blk x.1 k := by unfold nowD; rw [hw]; rfl
    have h2 : nowD f.1 k = blk f.1.1 k := by rw [← qcp a1 (by omega)]; exact qql a1 hm hok.2.2.1 hk
    rw [← h1, ← h2, hnow k (by omega)]
   have hokx : okFs (x, f.2.1, f.2.2.1, f.2.2.2) := qlo hok o1 (by rw [qfy o1, qfy a1, o2]) hlow (by rw [hw]; intro p hp; cases hp) hok.2.2.2.2.2
   have hokx : okFs (x, f.2) := hokx
   exact ⟨hok, hokx, hw, rfl, qsm hok hokx rfl (fun k _ hk => hnow k hk), qsm hokx hok rfl (fun k _ hk => (hnow k (by rw [← o2]; exact hk)).symm)⟩
  ·rw [if_pos h2] at h; exact absurd h h2
 ·rw [if_pos h0] at h; exact absurd h h0
theorem qaiz {f : Fsd} (h : okFs f) : (qca f.1 (f.2.1 % 2)).1 ≤ f.2.1 := by
 obtain ⟨_, _, hg, hL⟩ := qaq h
 obtain ⟨_, _, _, hb⟩ := qg5 hL
 rw [qi2 hb hg]
 exact Nat.le_refl _
theorem qv8 {f : Fsd} (hok : okFs f) (h : (qc8 f).2 = 0) : ∃ x, qc8 f = ((x, f.2.1 + 1, f.2.2.1, f.2.2.1), 0) ∧ okFs (x, f.2.1 + 1, f.2.2.1, f.2.2.1) ∧ x.2.1 = [] ∧ mny x = mny f.1 ∧ f.2.1 + 1 < 4294967296 ∧ Like f (x, f.2.1 + 1, f.2.2.1, f.2.2.1) [] := by
 rw [qqg] at h ⊢
 unfold qaey at h ⊢
 rw [if_neg (by rw [qd3 hok]; decide)] at h ⊢
 obtain ⟨h1, h2, h3, h4⟩ := qaq hok
 have hlt := (qic hok).2
 by_cases hg : f.2.1 = 4294967295
 ·rw [if_pos hg] at h; cases h
 ·rw [if_neg hg] at h ⊢
  cases ho : qa6 f.1 (qfb (f.2.1 + 1) (bytF f.2.2.1)) with
  | none => rw [ho] at h; cases h
  | some x =>
   have hc := hok.2.2.2.2.2
   have hx := qqm h1 h2 hok.2.2.1 hc (by omega) (qaiz hok) ho
   have hb : (bytF f.2.2.1).length ≤ 2048 := (qbz hc).2.2.2.2
   obtain ⟨o1, o2, o3, o4⟩ := qjb h1 h2 (by omega) hb ho
   refine ⟨x, rfl, hx, o3, o2, by omega, qsm hok hx rfl (fun k hk hk2 => ?_)⟩
   show nowD x k = nowD f.1 k
   have e1 : nowD x k = blk x.1 k := by unfold nowD; rw [o3]; rfl
   rw [e1, o4 k hk2, if_neg (by omega), if_neg (by rw [qco]; omega), qcp h1 hk2]
/-! ### how many blocks can be given -/
theorem qls {p q : Int → Bool} {a : Int} : ∀ k : Nat, (∀ i : Nat, i < k → p (a + i) = q (a + i)) → cntB p a k = cntB q a k
 | 0, _ => rfl
 | k + 1, h => by
  simp only [cntB]
  rw [qls k (fun i hi => h i (by omega)), h k (by omega)]
theorem qzy {p : Int → Bool} {a : Int} : ∀ k : Nat, (∀ i : Nat, i < k → p (a + i) = true) → cntB p a k = k
 | 0, _ => rfl
 | k + 1, h => by
  simp only [cntB]
  rw [qzy k (fun i hi => h i (by omega)), h k (by omega), if_pos rfl]
  omega
theorem qoq {f : Fsd} (h : okFs f) : allX (qa4 f) = 0 ∧ qa4 f = qaz f.2.2.1 ++ qaz f.2.2.2 ∧ (∀ x ∈ qa4 f, 34 ≤ x.1 ∧ 1 ≤ x.2 ∧ x.1 + x.2 ≤ mny f.1) := by
 have hc := h.2.2.2.2.2
 have hk := qom h
 have e1 : qfs f.2.2.1 = qaz f.2.2.1 := by unfold qfs; rw [if_pos (qj3 hc)]
 have e2 : qfs f.2.2.2 = qaz f.2.2.2 := by unfold qfs; rw [if_pos (qj3 hk)]
 have m1 := (qbz hc).2
 have m2 := (qbz hk).2
 have hx : ∀ x ∈ qa4 f, 34 ≤ x.1 ∧ 1 ≤ x.2 ∧ x.1 + x.2 ≤ mny f.1 := by
  intro x hx
  unfold qa4 at hx
  rw [e1, e2] at hx
  rcases List.mem_append.1 hx with hx | hx
  ·exact qec m1.2.2.1 x hx
  ·exact qec m2.2.2.1 x hx
 have hmm := ((qb5 f.1).1 (qaq h).1).2.2.1
 have l1 : ∀ {fs : List Fl} {B : Int}, mayF fs B → (qaz fs).length ≤ 2048 := by
  intro fs B hm
  have := qlb fs 64 (fun g hg => by have := qyv hm g hg; omega)
  have := hm.1
  have hb := hm.2.2.2
  -- the bytes bound the extents
  have hle : (qaz fs).length ≤ (bytF fs).length := by
   have : ∀ fs : List Fl, (qaz fs).length ≤ (fs.flatMap qd1).length := by
    intro fs
    induction fs with
    | nil => simp [qaz]
    | cons g fs ih =>
     have e : qaz (g :: fs) = g.2 ++ qaz fs := rfl
     rw [e, List.length_append, List.flatMap_cons, List.length_append]
     have h2 : g.2.length ≤ (qd1 g).length := by
      unfold qd1
      rw [List.length_append, List.length_append]
      have : ∀ l : List Ex, l.length ≤ (bytE l).length := by
       intro l
       induction l with
       | nil => simp [bytE]
       | cons x l ih =>
        have e : bytE (x :: l) = bytX x ++ bytE l := rfl
        rw [e, List.length_append, List.length_cons]
        have : 1 ≤ (bytX x).length := by
         unfold bytX
         rw [List.length_append]
         have := qagc x.1.toNat
         omega
        omega
      have := this g.2
      omega
     omega
   have := this fs
   unfold bytF
   rw [List.length_append]
   omega
  omega
 refine ⟨?_, ?_, hx⟩
 ·refine qks ?_ (fun x hx' => by have := hx x hx'; omega)
  unfold qa4
  rw [e1, e2, List.length_append]
  have := l1 m1
  have := l1 m2
  omega
 ·unfold qa4; rw [e1, e2]
theorem qai0 {f : Fsd} (h : okFs f) : qcu 34 (qa8 f) (qa4 f) = 0 := by
 have h1 := (qaq h).1
 rw [qha h1]
 unfold qcu
 have hmm := ((qb5 f.1).1 h1).2.2.1
 have := (qaq h).2.1
 rw [if_neg (by omega), (qoq h).1]
theorem qt6 {f : Fsd} (h : okFs f) : qah4 f = 0 ∧ qr0 f = cntB (fun n => !inL (qa4 f) n) 34 (mny f.1 - 34) := by
 have h1 := (qaq h).1
 have h2 := (qaq h).2.1
 have hmm := ((qb5 f.1).1 h1).2.2.1
 have hf := qai0 h
 obtain ⟨r1, r2, r3⟩ := qfg hf
 have hm := qha h1
 have hch : chkX (qdh 34 (qa8 f) (qa4 f)) = 0 := qxw r1 (by decide) (by rw [hm]; omega) r3
 have he := qd3 h
 refine ⟨?_, ?_⟩
 ·unfold qah4; rw [if_neg (by rw [he]; decide), if_neg (by rw [hf]; decide), hch]
 ·unfold qr0
  rw [if_neg (by rw [he]; decide), if_neg (by rw [hf]; decide)]
  unfold manyR
  rw [if_pos hch]
  rw [qh8 (a := 34) (k := mny f.1 - 34) _ (fun x hx => by have := r1.1 x hx; rw [hm] at this; omega) (qnw hch).2]
  apply qls
  intro i hi
  rw [r2, hm]
  rw [decide_eq_true (by omega), decide_eq_true (by omega)]
  simp
theorem qzz {p : Int → Bool} {a : Int} (k : Nat) : cntB (fun n => !p n) a k = k - cntB p a k := by
 have h1 := qn4 (p := p) (q := fun n => !p n) a k (fun i _ hp => by simp [hp])
 have h2 := qzy (p := fun n => p n || !p n) (a := a) k (fun i _ => by simp)
 omega
theorem qae5 {f : Fsd} (h : okFs f) : qbj (qaz f.2.2.1) = cntB (inL (qaz f.2.2.1)) 34 (mny f.1 - 34) := by
 have hm := qfz h
 have := (qaq h).2.1
 exact qh8 _ (fun x hx => by have := qec hm.2.2.1 x hx; omega) (extP_parts.1 hm.2.2.1).1
theorem qlt {l : List Ex} (h : ∀ x ∈ l, 0 ≤ x.2) : ((qay l).length : Int) = qbj l := by
 induction l with
 | nil => rfl
 | cons x l ih =>
  have := ih (fun y hy => h y (List.mem_cons_of_mem _ hy))
  have hx := h x (List.mem_cons_self ..)
  have e1 : qay (x :: l) = blkX x x.2.toNat ++ qay l := rfl
  have e2 : qbj (x :: l) = x.2 + qbj l := rfl
  have e3 : (blkX x x.2.toNat).length = x.2.toNat := by simp [blkX]
  rw [e1, e2, List.length_append, e3]
  omega
def sumS (fs : List Fl) : Int := ((fs.map fun g => (qay g.2).length).sum : Nat)
theorem qae6 {fs : List Fl} (h : ∀ g ∈ fs, ∀ x ∈ g.2, 0 ≤ x.2) : sumS fs = qbj (qaz fs) := by
 induction fs with
 | nil => rfl
 | cons g fs ih =>
  have := ih (fun k hk => h k (List.mem_cons_of_mem _ hk))
  have hg := qlt (h g (List.mem_cons_self ..))
  have e1 : qaz (g :: fs) = g.2 ++ qaz fs := rfl
  have e2 : qbj (g.2 ++ qaz fs) = qbj g.2 + qbj (qaz fs) := by unfold qbj; rw [List.map_append, List.sum_append]
  rw [e1, e2, ← this, ← hg]
  unfold sumS
  rw [List.map_cons, List.sum_cons]
  omega
theorem qae7 (fs : List Fl) (k : Nat) (h : k < fs.length) : sumS (fs.take (k + 1)) = sumS (fs.take k) + (qay (fs[k]).2).length := by
 unfold sumS
 rw [List.take_succ_eq_append_getElem h, List.map_append, List.sum_append]
 simp
theorem qagp {f : Fsd} (h : okFs f) (k : Nat) : 0 ≤ sumS (f.2.2.1.take k) ∧ sumS (f.2.2.1.take k) ≤ 4096 := by
 have hm := qfz h
 have hall : ∀ g ∈ f.2.2.1, ∀ x ∈ g.2, 0 ≤ x.2 := fun g hg x hx => by have := qec hm.2.2.1 x ((qlp hg).subset hx); omega
 have h1 := qae6 hall
 have h2 := qae5 h
 have h3 := qn3 (inL (qaz f.2.2.1)) 34 (mny f.1 - 34)
 have hmm := ((qb5 f.1).1 (qaq h).1).2.2.1
 have e : sumS f.2.2.1 = sumS (f.2.2.1.take k) + sumS (f.2.2.1.drop k) := by
  unfold sumS
  rw [← Int.natCast_add, ← List.sum_append, ← List.map_append, List.take_append_drop]
 have a : 0 ≤ sumS (f.2.2.1.take k) := by unfold sumS; omega
 have b : 0 ≤ sumS (f.2.2.1.drop k) := by unfold sumS; omega
 omega
end Go.Proofs.YtipokepnhjlgdaaGreat
