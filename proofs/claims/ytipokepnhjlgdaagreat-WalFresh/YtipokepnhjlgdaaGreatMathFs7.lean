/-
  Plain mathematics of files on a disk: a sync, a commit, how many blocks can be given.
-/
import Derived.Test.YtipokepnhjlgdaaGreatLFs4
namespace Go.Proofs.YtipokepnhjlgdaaGreat
open Go.RowKit
set_option linter.unusedVariables false
set_option linter.unusedSimpArgs false
theorem qw6 (x : Ex) (k : Nat) : (blkX x k).Nodup := by
 unfold blkX
 rw [List.nodup_iff_pairwise_ne, List.pairwise_map]
 exact List.Pairwise.imp (fun h => by omega) List.nodup_range
theorem qom {l : List Ex} (h : apX l = true) (hp : ∀ x ∈ l, 1 ≤ x.2) : (qaw l).Nodup := by
 have h := (qzd l).1 h
 unfold qaw
 rw [List.nodup_iff_pairwise_ne, List.pairwise_flatMap]
 refine ⟨fun x _ => qw6 x _, ?_⟩
 refine List.Pairwise.imp ?_ h
 intro x y hm a ha b hb
 unfold blkX at ha hb
 obtain ⟨i, hi, rfl⟩ := List.mem_map.1 ha
 obtain ⟨j, hj, rfl⟩ := List.mem_map.1 hb
 have := List.mem_range.1 hi
 have := List.mem_range.1 hj
 unfold qjv at hm
 simp only [Bool.and_eq_false_iff, decide_eq_false_iff_not] at hm
 omega
theorem qsn (fs : List Fl) : qaw (qaz fs) = fs.flatMap fun g => qaw g.2 := by
 unfold qaw qaz
 rw [List.flatMap_assoc]
theorem qqp {f : Fsd} (h : okFs f) : (f.2.2.1.flatMap fun g => qaw g.2).Nodup := by
 rw [← qsn]
 have hm := qf0 h
 have := extP_parts.1 hm.2.2.1
 exact qom this.1 (fun x hx => (qd8 hm.2.2.1 x hx).2.1)
theorem qhi {f : Fsd} (h : okFs f) {g : Fl} (hg : g ∈ f.2.2.1) : (qaw g.2).Nodup := by
 have := qqp h
 rw [List.nodup_iff_pairwise_ne, List.pairwise_flatMap] at this
 exact this.1 g hg
theorem qso {f : Fsd} (h : okFs f) {g k : Fl} (hg : g ∈ f.2.2.1) (hk : k ∈ f.2.2.1) (hne : g.1 ≠ k.1) {n : Int} (h1 : n ∈ qaw g.2) : n ∉ qaw k.2 := by
 have hp := qqp h
 rw [List.nodup_iff_pairwise_ne, List.pairwise_flatMap] at hp
 intro h2
 have hs : ∀ a ∈ f.2.2.1, ∀ b ∈ f.2.2.1, a.1 ≠ b.1 → ∀ x ∈ qaw a.2, ∀ y ∈ qaw b.2, x ≠ y := by
  have := hp.2
  intro a ha b hb hab
  obtain ⟨i, hi, rfl⟩ := List.mem_iff_getElem.1 ha
  obtain ⟨j, hj, rfl⟩ := List.mem_iff_getElem.1 hb
  have hpw := List.pairwise_iff_getElem.1 this
  rcases Nat.lt_trichotomy i j with hij | hij | hij
  ·exact hpw i j hi hj hij
  ·subst hij; exact absurd rfl hab
  ·intro x hx y hy e
   exact hpw j i hj hi hij y hy x hx e.symm
 exact hs g hg k hk hne n h1 n h2 rfl
theorem qaat {f : Fsd} {s : List UInt8} {i : Int} {b : List UInt8} (h : (qcj f s i b).2 = 0) :
  okFs f ∧ ∃ d', qcj f s i b = ((d', f.2), 0) ∧ atE f s i = 0 ∧ oneD f.1 (false, atN f s i, b) = some d' ∧ actE (mny f.1) (false, atN f s i, b) = 0 := by
 rw [qahw] at h ⊢
 by_cases h0 : fsE f = 0
 ·have hok := qk0 h0
  rw [if_neg (by rw [h0]; decide)] at h ⊢
  by_cases h1 : atE f s i = 0
  ·rw [if_neg (by rw [h1]; decide)] at h ⊢
   by_cases h2 : (doD f.1 [(false, atN f s i, b)] 1).2 = 0
   ·obtain ⟨a1, a2, a3, a4, x, a5, a6⟩ := qym h2
    have a7 := a2 (false, atN f s i, b) (by simp)
    refine ⟨hok, x, ?_, h1, ?_, a7⟩
    ·rw [if_neg (by rw [h2]; decide), a6]
    ·have : qbb f.1 [(false, atN f s i, b)] = some x := a5
     rw [qep] at this
     exact this
   ·rw [if_pos h2] at h; exact absurd h h2
  ·rw [if_pos h1] at h; exact absurd h h1
 ·rw [if_pos h0] at h; exact absurd h h0
theorem qaau {f : Fsd} {s : List UInt8} {i : Int} (h : okFs f) (ha : atE f s i = 0) : qay f s = 0 ∧ ∃ j : Nat, i = j ∧ ∃ hj : j < (bloL f s).length, atN f s i = (bloL f s)[j] := by
 have ha2 := ha
 unfold atE at ha
 by_cases h1 : bloE f s = 0
 ·have hs : qay f s = 0 := by unfold qay; rw [if_neg (by rw [qd2 h]; decide), h1]
  rw [if_neg (by rw [h1]; decide)] at ha
  by_cases h2 : i < 0 ∨ ((bloL f s).length : Int) ≤ i
  ·rw [if_pos h2] at ha; cases ha
  ·refine ⟨hs, i.toNat, by omega, by omega, ?_⟩
   have e : i = (i.toNat : Int) := by omega
   have := (qqo hs (show i.toNat < (bloL f s).length by omega)).2.1
   rw [← e] at this
   exact this
 ·rw [if_pos h1] at ha; exact absurd ha h1
theorem quc (F G : Int → List UInt8) (b : List UInt8) : ∀ (l : List Int) (j : Nat) (hj : j < l.length), l.Nodup → (∀ n ∈ l, (F n).length = 128) → (∀ n, G n = if n = l[j] then b else F n) →
  l.flatMap G = (l.flatMap F).take (128 * j) ++ (b ++ (l.flatMap F).drop (128 * j + 128))
 | n :: l, 0, hj, hn, hF, hG => by
  have h1 : G n = b := by rw [hG]; simp
  have h2 : l.flatMap G = l.flatMap F := by
   have hx : ∀ m ∈ l, G m = F m := by
    intro m hm
    rw [hG, if_neg]
    intro e
    have e : m = n := e
    subst e
    exact (List.nodup_cons.1 hn).1 hm
   clear hG hF hn hj h1
   induction l with
   | nil => rfl
   | cons a l ih => rw [List.flatMap_cons, List.flatMap_cons, hx a (List.mem_cons_self ..), ih (fun m hm => hx m (List.mem_cons_of_mem _ hm))]
  rw [List.flatMap_cons, h1, h2, List.flatMap_cons]
  have hl := hF n (List.mem_cons_self ..)
  rw [Nat.mul_zero, List.take_zero, Nat.zero_add, List.nil_append, ← hl, List.drop_left]
 | n :: l, j + 1, hj, hn, hF, hG => by
  have hj' : j < l.length := by simpa using hj
  have ih := quc F G b l j hj' (List.nodup_cons.1 hn).2 (fun m hm => hF m (List.mem_cons_of_mem _ hm)) (fun m => by rw [hG]; rfl)
  have h1 : G n = F n := by
   rw [hG, if_neg]
   intro e
   have e : n = l[j] := e
   exact (List.nodup_cons.1 hn).1 (e ▸ List.getElem_mem hj')
  have hl := hF n (List.mem_cons_self ..)
  rw [List.flatMap_cons, h1, ih, List.flatMap_cons]
  have e1 : 128 * (j + 1) = (F n).length + 128 * j := by omega
  have e2 : 128 * (j + 1) + 128 = (F n).length + (128 * j + 128) := by omega
  rw [e2, e1, List.take_length_add_append, List.drop_length_add_append, List.append_assoc]
theorem qon {f : Fsd} {s : List UInt8} {i : Int} {b : List UInt8} (h : (qcj f s i b).2 = 0) :
  okFs (qcj f s i b).1 ∧ (qcj f s i b).1.2 = f.2 ∧ b.length = 128 ∧ qay f s = 0 ∧ qay (qcj f s i b).1 s = 0 ∧ (∃ j : Nat, i = j ∧ 128 * j + 128 ≤ (qh0 f s).length ∧ qh0 (qcj f s i b).1 s = (qh0 f s).take (128 * j) ++ (b ++ (qh0 f s).drop (128 * j + 128))) ∧ getE (qcj f s i b).1 s i = 0 ∧ getL (qcj f s i b).1 s i = b ∧ Like f (qcj f s i b).1 s := by
 obtain ⟨hok, d', e, ha, ho, hact⟩ := qaat h
 rw [e]
 obtain ⟨hs, j, rfl, hj, hN⟩ := qaau hok ha
 obtain ⟨hd, hm34, _, _⟩ := qan hok
 obtain ⟨o1, o2, _⟩ := qdd hd hact ho
 have hr := qcn hs _ (List.getElem_mem hj)
 have hb : b.length = 128 := by
  have : putE (mny f.1) (atN f s j, b) = 0 := by unfold actE at hact; simpa using hact
  exact (qcz this).2.2
 have hd1 : d'.1 = f.1.1 ∧ d'.2.1 = f.1.2.1 ++ [(atN f s j, b)] := by
  unfold oneD at ho
  split at ho
  ·cases ho
  ·simp only [Bool.false_eq_true, if_false] at ho; cases ho; exact ⟨rfl, rfl⟩
 have hokF : okFs (d', f.2.1, f.2.2.1, f.2.2.2) := qlo hok o1 (by rw [hd1.1]) (fun k _ => by rw [hd1.1]) (by
  intro p hp
  rw [hd1.2] at hp
  rcases List.mem_append.1 hp with hp | hp
  ·exact hok.2.2.1 p hp
  ·rw [List.mem_singleton.1 hp]; show 34 ≤ atN f s j; rw [hN]; exact hr.1) hok.2.2.2.2.2
 have hokF : okFs (d', f.2) := hokF
 have hsF : qay (d', f.2) s = 0 := by rw [qhh (f := f) (g := (d', f.2)) rfl hok hokF]; exact hs
 have hbl : bloL (d', f.2) s = bloL f s := (qgv (f := f) (g := (d', f.2)) rfl s).1
 have hnow : ∀ k : Nat, k < mny f.1 → nowD d' k = if (k : Int) = atN f s j then b else nowD f.1 k := by
  intro k hk
  have := qfq hd hact ho hk
  rw [qcm o1 (by omega), qcm hd hk] at this
  exact this
 obtain ⟨h0, l, hl⟩ := qcd hs
 have hfi := (qc7 hok hl).2.2.2.1
 have hnd : (bloL f s).Nodup := by rw [hfi]; exact qhi hok hl
 refine ⟨hokF, rfl, hb, hs, hsF, ⟨j, rfl, ?_, ?_⟩, ?_, ?_, ?_⟩
 ·unfold qh0
  rw [if_neg (by rw [hs]; decide), qub hd _ (qcn hs)]
  omega
 ·unfold qh0
  rw [if_neg (by rw [hsF]; decide), if_neg (by rw [hs]; decide), hbl]
  have hG : ∀ n ∈ bloL f s, nowD d' n.toNat = if n = (bloL f s)[j] then b else nowD f.1 n.toNat := by
   intro n hn
   have := qcn hs n hn
   rw [hnow _ (by omega), hN]
   have e : ((n.toNat : Nat) : Int) = n := by omega
   rw [e]
  have hc : (bloL f s).flatMap (fun n => nowD d' n.toNat) = (bloL f s).flatMap (fun n => if n = (bloL f s)[j] then b else nowD f.1 n.toNat) := by
   have : ∀ (l : List Int), (∀ n ∈ l, n ∈ bloL f s) → l.flatMap (fun n => nowD d' n.toNat) = l.flatMap (fun n => if n = (bloL f s)[j] then b else nowD f.1 n.toNat) := by
    intro l
    induction l with
    | nil => intro _; rfl
    | cons a l ih => intro hx; rw [List.flatMap_cons, List.flatMap_cons, hG a (hx a (List.mem_cons_self ..)), ih (fun m hm => hx m (List.mem_cons_of_mem _ hm))]
   exact this _ (fun n hn => hn)
  show (bloL f s).flatMap (fun n => nowD d' n.toNat) = _
  rw [hc]
  exact quc (fun n => nowD f.1 n.toNat) (fun n => if n = (bloL f s)[j] then b else nowD f.1 n.toNat) b (bloL f s) j hj hnd (fun n hn => by have := qcn hs n hn; exact qsm hd (by omega)) (fun n => rfl)
 ·exact (qqo hsF (i := j) (by rw [hbl]; exact hj)).2.2.1
 ·rw [(qqo hsF (i := j) (by rw [hbl]; exact hj)).2.2.2]
  have e : (bloL (d', f.2) s)[j]'(by rw [hbl]; exact hj) = (bloL f s)[j] := by simp only [hbl]
  rw [e]
  show nowD d' _ = b
  rw [hnow _ (by omega), if_pos (by rw [hN]; omega)]
 ·intro g hg hne
  have hsg := (qc7 hok hg).2.2.2.2
  have hsg' : qay (d', f.2) g.1 = 0 := by rw [qhh (f := f) (g := (d', f.2)) rfl hok hokF]; exact hsg
  refine ⟨hsg, hsg', qlr hsg hsg' (qgv (f := f) (g := (d', f.2)) rfl g.1).1 ?_⟩
  intro n hn
  have hrn := qcn hsg n hn
  show nowD d' n.toNat = _
  rw [hnow _ (by omega), if_neg]
  intro e
  rw [hN] at e
  have e : n = (bloL f s)[j] := by omega
  rw [(qc7 hok hg).2.2.2.1] at hn
  have hin : n ∈ qaw l := by
   have h9 : n ∈ bloL f s := e ▸ List.getElem_mem hj
   have hfi' : bloL f s = qaw l := hfi
   rw [hfi'] at h9
   exact h9
  exact qso hok hg hl hne hn hin
theorem qsp {f g : Fsd} {but : List UInt8} (hf : okFs f) (hg : okFs g) (hd : g.2.2.1 = f.2.2.1) (hb : ∀ k : Nat, 34 ≤ k → k < mny f.1 → nowD g.1 k = nowD f.1 k) : Like f g but := by
 intro x hx _
 have h1 := (qc7 hf hx).2.2.2.2
 have h2 : qay g x.1 = 0 := by rw [qhh hd hf hg]; exact h1
 refine ⟨h1, h2, qlr h1 h2 (qgv hd x.1).1 ?_⟩
 intro n hn
 have := qcn h1 n hn
 exact hb _ (by omega) (by omega)
theorem qud {f : Fsd} (h : (qbh f).2 = 0) : okFs f ∧ okFs (qbh f).1 ∧ (qbh f).1.1.2.1 = [] ∧ (qbh f).1.2 = f.2 ∧ Like f (qbh f).1 [] ∧ Like (qbh f).1 f [] := by
 rw [qaaq] at h ⊢
 by_cases h0 : fsE f = 0
 ·have hok := qk0 h0
  rw [if_neg (by rw [h0]; decide)] at h ⊢
  by_cases h2 : (doD f.1 [(true, 0, [])] 1).2 = 0
  ·rw [if_neg (by rw [h2]; decide)]
   obtain ⟨a1, a2, a3, a4, x, a5, a6⟩ := qym h2
   rw [a6]
   have ho : oneD f.1 (true, 0, []) = some x := by
    have : qbb f.1 [(true, 0, [])] = some x := a5
    rw [qep] at this
    exact this
   obtain ⟨o1, o2, _⟩ := qdd a1 (qby _) ho
   obtain ⟨_, hm, _, _⟩ := qan hok
   have hs := fun n hn => qff (n := n) a1 (qby _) rfl ho hn
   have hw : x.2.1 = [] := (hs 0 (by omega)).2
   have hnow : ∀ k : Nat, k < mny f.1 → nowD x k = nowD f.1 k := fun k hk => by
    have := (hs k hk).1
    rw [qcm o1 (by omega), qcm a1 hk] at this
    exact this
   have hlow : ∀ k, k < 34 → blk x.1 k = blk f.1.1 k := fun k hk => by
    have h1 : nowD x k = blk x.1 k := by unfold nowD; rw [hw]; rfl
    have h2 : nowD f.1 k = blk f.1.1 k := by rw [← qcm a1 (by omega)]; exact qqm a1 hm hok.2.2.1 hk
    rw [← h1, ← h2, hnow k (by omega)]
   have hokx : okFs (x, f.2.1, f.2.2.1, f.2.2.2) := qlo hok o1 (by rw [qfz o1, qfz a1, o2]) hlow (by rw [hw]; intro p hp; cases hp) hok.2.2.2.2.2
   have hokx : okFs (x, f.2) := hokx
   exact ⟨hok, hokx, hw, rfl, qsp hok hokx rfl (fun k _ hk => hnow k hk), qsp hokx hok rfl (fun k _ hk => (hnow k (by rw [← o2]; exact hk)).symm)⟩
  ·rw [if_pos h2] at h; exact absurd h h2
 ·rw [if_pos h0] at h; exact absurd h h0
theorem qaka {f : Fsd} (h : okFs f) : (qb7 f.1 (f.2.1 % 2)).1 ≤ f.2.1 := by
 obtain ⟨_, _, hg, hL⟩ := qan h
 obtain ⟨_, _, _, hb⟩ := qg7 hL
 rw [qi2 hb hg]
 exact Nat.le_refl _
theorem qm9 {f : Fsd} (hok : okFs f) (h : (qbr f).2 = 0) : ∃ x, qbr f = ((x, f.2.1 + 1, f.2.2.1, f.2.2.1), 0) ∧ okFs (x, f.2.1 + 1, f.2.2.1, f.2.2.1) ∧ x.2.1 = [] ∧ mny x = mny f.1 ∧ f.2.1 + 1 < 4294967296 ∧ Like f (x, f.2.1 + 1, f.2.2.1, f.2.2.1) [] := by
 rw [qlk] at h ⊢
 unfold qaae at h ⊢
 rw [if_neg (by rw [qd2 hok]; decide)] at h ⊢
 obtain ⟨h1, h2, h3, h4⟩ := qan hok
 have hlt := (qic hok).2
 by_cases hg : f.2.1 = 4294967295
 ·rw [if_pos hg] at h; cases h
 ·rw [if_neg hg] at h ⊢
  cases ho : qbb f.1 (qeu (f.2.1 + 1) (bytF f.2.2.1)) with
  | none => rw [ho] at h; cases h
  | some x =>
   have hc := hok.2.2.2.2.2
   have hx := qqn h1 h2 hok.2.2.1 hc (by omega) (qaka hok) ho
   have hb : (bytF f.2.2.1).length ≤ 2048 := (qbx hc).2.2.2.2
   obtain ⟨o1, o2, o3, o4⟩ := qjb h1 h2 (by omega) hb ho
   refine ⟨x, rfl, hx, o3, o2, by omega, qsp hok hx rfl (fun k hk hk2 => ?_)⟩
   show nowD x k = nowD f.1 k
   have e1 : nowD x k = blk x.1 k := by unfold nowD; rw [o3]; rfl
   rw [e1, o4 k hk2, if_neg (by omega), if_neg (by rw [qcl]; omega), qcm h1 hk2]
theorem qna {f : Fsd} (hok : okFs f) (h : (qbr f).2 ≠ 0) : (qbr f).2 = 9 := by
 rw [qlk] at h ⊢
 unfold qaae at h ⊢
 rw [if_neg (by rw [qd2 hok]; decide)] at h ⊢
 by_cases hg : f.2.1 = 4294967295
 ·rw [if_pos hg]
 ·rw [if_neg hg] at h ⊢
  cases ho : qbb f.1 (qeu (f.2.1 + 1) (bytF f.2.2.1)) with
  | none => rfl
  | some x => rw [ho] at h; exact absurd rfl h
/-! ### how many blocks can be given -/
theorem qls {p q : Int → Bool} {a : Int} : ∀ k : Nat, (∀ i : Nat, i < k → p (a + i) = q (a + i)) → cntB p a k = cntB q a k
 | 0, _ => rfl
 | k + 1, h => by
  simp only [cntB]
  rw [qls k (fun i hi => h i (by omega)), h k (by omega)]
theorem qaav {p : Int → Bool} {a : Int} : ∀ k : Nat, (∀ i : Nat, i < k → p (a + i) = true) → cntB p a k = k
 | 0, _ => rfl
 | k + 1, h => by
  simp only [cntB]
  rw [qaav k (fun i hi => h i (by omega)), h k (by omega), if_pos rfl]
  omega
theorem qoo {f : Fsd} (h : okFs f) : allX (qa3 f) = 0 ∧ qa3 f = qaz f.2.2.1 ++ qaz f.2.2.2 ∧ (∀ x ∈ qa3 f, 34 ≤ x.1 ∧ 1 ≤ x.2 ∧ x.1 + x.2 ≤ mny f.1) := by
 have hc := h.2.2.2.2.2
 have hk := qol h
 have e1 : qft f.2.2.1 = qaz f.2.2.1 := by unfold qft; rw [if_pos (qj5 hc)]
 have e2 : qft f.2.2.2 = qaz f.2.2.2 := by unfold qft; rw [if_pos (qj5 hk)]
 have m1 := (qbx hc).2
 have m2 := (qbx hk).2
 have hx : ∀ x ∈ qa3 f, 34 ≤ x.1 ∧ 1 ≤ x.2 ∧ x.1 + x.2 ≤ mny f.1 := by
  intro x hx
  unfold qa3 at hx
  rw [e1, e2] at hx
  rcases List.mem_append.1 hx with hx | hx
  ·exact qd8 m1.2.2.1 x hx
  ·exact qd8 m2.2.2.1 x hx
 have hmm := ((qb3 f.1).1 (qan h).1).2.2.1
 have l1 : ∀ {fs : List Fl} {B : Int}, mayF fs B → (qaz fs).length ≤ 2048 := by
  intro fs B hm
  have := qla fs 64 (fun g hg => by have := qzs hm g hg; omega)
  have := hm.1
  have hb := hm.2.2.2
  -- the bytes bound the extents
  have hle : (qaz fs).length ≤ (bytF fs).length := by
   have : ∀ fs : List Fl, (qaz fs).length ≤ (fs.flatMap qdz).length := by
    intro fs
    induction fs with
    | nil => simp [qaz]
    | cons g fs ih =>
     have e : qaz (g :: fs) = g.2 ++ qaz fs := rfl
     rw [e, List.length_append, List.flatMap_cons, List.length_append]
     have h2 : g.2.length ≤ (qdz g).length := by
      unfold qdz
      rw [List.length_append, List.length_append]
      have : ∀ l : List Ex, l.length ≤ (bytE l).length := by
       intro l
       induction l with
       | nil => simp [bytE]
       | cons x l ih =>
        have e : bytE (x :: l) = bytX x ++ bytE l := rfl
        rw [e, List.length_append, List.length_cons]
        have : 1 ≤ (bytX x).length := by
         unfold bytX
         rw [List.length_append]
         have := qahl x.1.toNat
         omega
        omega
      have := this g.2
      omega
     omega
   have := this fs
   unfold bytF
   rw [List.length_append]
   omega
  omega
 refine ⟨?_, ?_, hx⟩
 ·refine qks ?_ (fun x hx' => by have := hx x hx'; omega)
  unfold qa3
  rw [e1, e2, List.length_append]
  have := l1 m1
  have := l1 m2
  omega
 ·unfold qa3; rw [e1, e2]
theorem qakb {f : Fsd} (h : okFs f) : qcq 34 (qa6 f) (qa3 f) = 0 := by
 have h1 := (qan h).1
 rw [qhc h1]
 unfold qcq
 have hmm := ((qb3 f.1).1 h1).2.2.1
 have := (qan h).2.1
 rw [if_neg (by omega), (qoo h).1]
theorem que {f : Fsd} (h : okFs f) : qajf f = 0 ∧ qr3 f = cntB (fun n => !inL (qa3 f) n) 34 (mny f.1 - 34) := by
 have h1 := (qan h).1
 have h2 := (qan h).2.1
 have hmm := ((qb3 f.1).1 h1).2.2.1
 have hf := qakb h
 obtain ⟨r1, r2, r3⟩ := qfh hf
 have hm := qhc h1
 have hch : chkX (qdc 34 (qa6 f) (qa3 f)) = 0 := qyt r1 (by decide) (by rw [hm]; omega) r3
 have he := qd2 h
 refine ⟨?_, ?_⟩
 ·unfold qajf; rw [if_neg (by rw [he]; decide), if_neg (by rw [hf]; decide), hch]
 ·unfold qr3
  rw [if_neg (by rw [he]; decide), if_neg (by rw [hf]; decide)]
  unfold manyR
  rw [if_pos hch]
  rw [qh8 (a := 34) (k := mny f.1 - 34) _ (fun x hx => by have := r1.1 x hx; rw [hm] at this; omega) (qnv hch).2]
  apply qls
  intro i hi
  rw [r2, hm]
  rw [decide_eq_true (by omega), decide_eq_true (by omega)]
  simp
theorem qaaw {p : Int → Bool} {a : Int} (k : Nat) : cntB (fun n => !p n) a k = k - cntB p a k := by
 have h1 := qn3 (p := p) (q := fun n => !p n) a k (fun i _ hp => by simp [hp])
 have h2 := qaav (p := fun n => p n || !p n) (a := a) k (fun i _ => by simp)
 omega
theorem qae8 {f : Fsd} (h : okFs f) : qbi (qaz f.2.2.1) = cntB (inL (qaz f.2.2.1)) 34 (mny f.1 - 34) := by
 have hm := qf0 h
 have := (qan h).2.1
 exact qh8 _ (fun x hx => by have := qd8 hm.2.2.1 x hx; omega) (extP_parts.1 hm.2.2.1).1
theorem qlt {l : List Ex} (h : ∀ x ∈ l, 0 ≤ x.2) : ((qaw l).length : Int) = qbi l := by
 induction l with
 | nil => rfl
 | cons x l ih =>
  have := ih (fun y hy => h y (List.mem_cons_of_mem _ hy))
  have hx := h x (List.mem_cons_self ..)
  have e1 : qaw (x :: l) = blkX x x.2.toNat ++ qaw l := rfl
  have e2 : qbi (x :: l) = x.2 + qbi l := rfl
  have e3 : (blkX x x.2.toNat).length = x.2.toNat := by simp [blkX]
  rw [e1, e2, List.length_append, e3]
  omega
def sumS (fs : List Fl) : Int := ((fs.map fun g => (qaw g.2).length).sum : Nat)
theorem qae9 {fs : List Fl} (h : ∀ g ∈ fs, ∀ x ∈ g.2, 0 ≤ x.2) : sumS fs = qbi (qaz fs) := by
 induction fs with
 | nil => rfl
 | cons g fs ih =>
  have := ih (fun k hk => h k (List.mem_cons_of_mem _ hk))
  have hg := qlt (h g (List.mem_cons_self ..))
  have e1 : qaz (g :: fs) = g.2 ++ qaz fs := rfl
  have e2 : qbi (g.2 ++ qaz fs) = qbi g.2 + qbi (qaz fs) := by unfold qbi; rw [List.map_append, List.sum_append]
  rw [e1, e2, ← this, ← hg]
  unfold sumS
  rw [List.map_cons, List.sum_cons]
  omega
theorem qafa (fs : List Fl) (k : Nat) (h : k < fs.length) : sumS (fs.take (k + 1)) = sumS (fs.take k) + (qaw (fs[k]).2).length := by
 unfold sumS
 rw [List.take_succ_eq_append_getElem h, List.map_append, List.sum_append]
 simp
theorem qahx {f : Fsd} (h : okFs f) (k : Nat) : 0 ≤ sumS (f.2.2.1.take k) ∧ sumS (f.2.2.1.take k) ≤ 4096 := by
 have hm := qf0 h
 have hall : ∀ g ∈ f.2.2.1, ∀ x ∈ g.2, 0 ≤ x.2 := fun g hg x hx => by have := qd8 hm.2.2.1 x ((qlp hg).subset hx); omega
 have h1 := qae9 hall
 have h2 := qae8 h
 have h3 := qn0 (inL (qaz f.2.2.1)) 34 (mny f.1 - 34)
 have hmm := ((qb3 f.1).1 (qan h).1).2.2.1
 have e : sumS f.2.2.1 = sumS (f.2.2.1.take k) + sumS (f.2.2.1.drop k) := by
  unfold sumS
  rw [← Int.natCast_add, ← List.sum_append, ← List.map_append, List.take_append_drop]
 have a : 0 ≤ sumS (f.2.2.1.take k) := by unfold sumS; omega
 have b : 0 ≤ sumS (f.2.2.1.drop k) := by unfold sumS; omega
 omega
end Go.Proofs.YtipokepnhjlgdaaGreat
