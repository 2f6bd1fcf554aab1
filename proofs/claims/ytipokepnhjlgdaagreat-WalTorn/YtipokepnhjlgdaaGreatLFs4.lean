/-
  Files held against others, as the statements do.
-/
import Derived.Test.YtipokepnhjlgdaaGreatFsTop5
namespace Go.Proofs.YtipokepnhjlgdaaGreat
open Go.RowKit
set_option linter.unusedVariables false
set_option linter.unusedSimpArgs false
theorem qco {d : Dk} {n : Nat} (h : okD d = true) (hn : n < mny d) : qf4 d n = nowD d n := qei h hn
theorem qfx {d : Dk} (h : okD d = true) : d.1.length = 128 * mny d := (Fine.of_ok h).1.1
theorem qjo : ∀ (bl : List (List UInt8)) (n : Nat) (d x : Dk), okD d = true → (∀ a ∈ qeb (n : Int) bl, actE (mny d) a = 0) → qa5 d (qeb (n : Int) bl) = some x → ∀ k, k < mny d → qf4 x k = if n ≤ k ∧ k < n + bl.length then bl.getD (k - n) [] else qf4 d k
 | [], n, d, x, h, ha, he, k, hk => by
  cases he
  rw [if_neg (by simp only [List.length_nil]; omega)]
 | b :: bl, n, d, x, h, ha, he, k, hk => by
  have h1 := ha (false, (n : Int), b) (List.mem_cons_self ..)
  have he : (match oneD d (false, (n : Int), b) with | none => none | some y => qa5 y (qeb ((n : Int) + 1) bl)) = some x := he
  cases ho : oneD d (false, (n : Int), b) with
  | none => rw [ho] at he; cases he
  | some y =>
   rw [ho] at he
   simp only at he
   obtain ⟨h2, h3, _⟩ := qdh h h1 ho
   have hb := qfo h h1 ho hk
   have ih := qjo bl (n + 1) y x h2 (fun a ha' => by rw [h3]; exact ha a (List.mem_cons_of_mem _ (by simpa using ha'))) (by simpa using he) k (by rw [h3]; exact hk)
   rw [ih, hb]
   simp only [List.length_cons]
   by_cases hkn : k = n
   ·subst hkn
    rw [if_neg (by omega), if_pos rfl, if_pos (by omega), Nat.sub_self]
    rfl
   ·rw [if_neg (show ¬ (k : Int) = (n : Int) by omega)]
    by_cases hr : n + 1 ≤ k ∧ k < n + 1 + bl.length
    ·rw [if_pos hr, if_pos (by omega), show k - n = (k - (n + 1)) + 1 by omega]
     rfl
    ·rw [if_neg hr, if_neg (by omega)]
theorem qi9 {d x : Dk} {g : Nat} {l : List UInt8} (hok : okD d = true) (hm : 34 < mny d) (hg : g ≠ 0) (hl : l.length ≤ 2048) (h : qa5 d (qfa g l) = some x) :
  okD x = true ∧ mny x = mny d ∧ x.2.1 = [] ∧ ∀ k, k < mny d → blk x.1 k = if k = g % 2 then (qau g (l.length : Nat)).1 else if 2 + g % 2 * 16 ≤ k ∧ k < 2 + g % 2 * 16 + (qbf l).length then (qbf l).getD (k - (2 + g % 2 * 16)) [] else qf4 d k := by
 obtain ⟨o1, o2⟩ := qli hok (qad1 hm hg hl) h
 have e : qfa g l = [(true, 0, [])] ++ (qeb ((2 + g % 2 * 16 : Nat) : Int) (qbf l) ++ ([(true, 0, [])] ++ ([(false, ((g % 2 : Nat) : Int), (qau g (l.length : Nat)).1)] ++ [(true, 0, [])]))) := rfl
 rw [e, qbz, qd3] at h
 obtain ⟨x1, a1, h⟩ := Option.bind_eq_some_iff.1 h
 rw [qbz] at h
 obtain ⟨x2, a2, h⟩ := Option.bind_eq_some_iff.1 h
 rw [qbz, qd3] at h
 obtain ⟨x3, a3, h⟩ := Option.bind_eq_some_iff.1 h
 rw [qbz, qd3] at h
 obtain ⟨x4, a4, a5⟩ := Option.bind_eq_some_iff.1 h
 rw [qd3] at a5
 obtain ⟨k1, m1, _⟩ := qdh hok (qbr _) a1
 have hda : ∀ a ∈ qeb ((2 + g % 2 * 16 : Nat) : Int) (qbf l), actE (mny x1) a = 0 := by rw [m1]; exact qj7 hm hl
 obtain ⟨k2, m2⟩ := qli k1 hda a2
 obtain ⟨k3, m3, _⟩ := qdh k2 (qbr _) a3
 have hsa : actE (mny x3) (false, ((g % 2 : Nat) : Int), (qau g (l.length : Nat)).1) = 0 := qig (by omega) hg hl
 obtain ⟨k4, m4, _⟩ := qdh k3 hsa a4
 refine ⟨o1, o2, ?_, fun k hk => ?_⟩
 ·have := qfd (n := 0) k4 (qbr _) rfl a5 (by omega)
  exact this.2
 ·have b5 := qfd (n := k) k4 (qbr _) rfl a5 (by omega)
  have b4 := qfo (n := k) k3 hsa a4 (by omega)
  have b3 := (qfd (n := k) k2 (qbr _) rfl a3 (by omega)).1
  have b2 := qjo (qbf l) (2 + g % 2 * 16) x1 x2 k1 hda a2 k (by omega)
  have b1 := (qfd (n := k) hok (qbr _) rfl a1 hk).1
  have e5 : qf4 x k = blk x.1 k := by rw [qei o1 (by omega), b5.2]; rfl
  rw [← e5, b5.1, b4, b3, b2, b1]
  by_cases hk2 : k = g % 2
  ·rw [if_pos (by omega), if_pos hk2]
  ·rw [if_neg (by omega), if_neg hk2]
theorem qlk {data : List UInt8} {n j : Nat} (h : 128 * n + j < data.length) (hj : j < 128) : (blk data n)[j]? = data[128 * n + j]? := by
 unfold blk
 rw [List.getElem?_take]
 rw [if_pos hj, List.getElem?_drop]
theorem qv4 {x : Dk} {g : Nat} {l : List UInt8} (hlen : x.1.length = 128 * mny x) (hm : 34 < mny x) (hl : l.length ≤ 2048) (h : ∀ j, j < (qbf l).length → blk x.1 (2 + g % 2 * 16 + j) = (qbf l).getD j []) : genB x g l.length = l := by
 unfold genB
 apply List.ext_getElem?
 intro i
 rw [List.getElem?_take]
 by_cases hi : i < l.length
 ·rw [if_pos hi, List.getElem?_drop]
  have hj : i / 128 < (qbf l).length := by rw [qcn]; omega
  have hb := h (i / 128) hj
  have e1 : 128 * (2 + g % 2 * 16) + i = 128 * (2 + g % 2 * 16 + i / 128) + i % 128 := by omega
  rw [e1, ← qlk (by omega) (by omega), hb]
  rw [List.getD, List.getElem?_eq_getElem hj, Option.getD_some, qm2]
  unfold padB
  rw [List.getElem?_append_left (by rw [List.length_take, List.length_drop]; omega), List.getElem?_take, if_pos (by omega), List.getElem?_drop]
  congr 1
  omega
 ·rw [if_neg hi, List.getElem?_eq_none (by omega)]
theorem qzp {x d : Dk} {g sz : Nat} (hx : x.1.length = d.1.length) (hlen : d.1.length = 128 * mny d) (hm : 34 < mny d) (hs : sz ≤ 2048) (h : ∀ k, k < 34 → blk x.1 k = blk d.1 k) : genB x g sz = genB d g sz := by
 unfold genB
 apply List.ext_getElem?
 intro i
 rw [List.getElem?_take, List.getElem?_take]
 by_cases hi : i < sz
 ·rw [if_pos hi, if_pos hi, List.getElem?_drop, List.getElem?_drop]
  have e1 : 128 * (2 + g % 2 * 16) + i = 128 * (2 + g % 2 * 16 + i / 128) + i % 128 := by omega
  rw [e1, ← qlk (by omega) (by omega), ← qlk (by omega) (by omega), h _ (by omega)]
 ·rw [if_neg hi, if_neg hi]
theorem qfl {x d : Dk} {n : Nat} (h : blk x.1 n = blk d.1 n) : qb9 x n = qb9 d n := by unfold qb9; rw [h]
theorem qad6 {d : Dk} {gen size : Nat} (h1 : (qb9 d (gen % 2)).1 ≤ gen) (h2 : qb9 d ((gen + 1) % 2) = (gen + 1, size)) : qhu d = (gen + 1, size) := by
 unfold qhu qf5
 rcases (by omega : gen % 2 = 0 ∧ (gen + 1) % 2 = 1 ∨ gen % 2 = 1 ∧ (gen + 1) % 2 = 0) with ⟨e1, e2⟩ | ⟨e1, e2⟩
 ·rw [e1] at h1
  rw [e2] at h2
  rw [h2]
  by_cases hg : 0 < (qb9 d 0).1
  ·rw [if_pos (show ((0, 0) : Nat × Nat).1 < (qb9 d 0).1 from hg), if_pos (show (qb9 d 0).1 < gen + 1 by omega)]
  ·rw [if_neg (show ¬ ((0, 0) : Nat × Nat).1 < (qb9 d 0).1 from hg), if_pos (show 0 < gen + 1 by omega)]
 ·rw [e1] at h1
  rw [e2] at h2
  rw [h2, if_pos (show ((0, 0) : Nat × Nat).1 < gen + 1 by show 0 < gen + 1; omega), if_neg (show ¬ gen + 1 < (qb9 d 1).1 by omega)]
theorem qzq {l : List Pu} (h : ∀ p ∈ l, 34 ≤ p.1) {k : Nat} (hk : k < 34) : qbt (k : Int) l = none := by
 induction l with
 | nil => rfl
 | cons p l ih =>
  unfold qbt
  rw [ih (fun q hq => h q (List.mem_cons_of_mem _ hq))]
  have := h p (List.mem_cons_self ..)
  simp only
  rw [if_neg (by omega)]
theorem qqh {d : Dk} (hok : okD d = true) (hm : 34 < mny d) (hw : ∀ p ∈ d.2.1, 34 ≤ p.1) {k : Nat} (hk : k < 34) : qf4 d k = blk d.1 k := by
 rw [qei hok (by omega), qzq hw hk]; rfl
theorem qqi {d x : Dk} {g : Nat} {D : List Fl} (hok : okD d = true) (hm : 34 < mny d) (hw : ∀ p ∈ d.2.1, 34 ≤ p.1) (hc : chkF D (mny d) = 0) (hg : g + 1 < 4294967296) (hl : (qb9 d (g % 2)).1 ≤ g) (h : qa5 d (qfa (g + 1) (bytF D)) = some x) : okFs (x, g + 1, D, D) := by
 have hb : (bytF D).length ≤ 2048 := (qbx hc).2.2.2.2
 obtain ⟨o1, o2, o3, o4⟩ := qi9 hok hm (by omega) hb h
 have hS : (qau (g + 1) ((bytF D).length : Nat)).2 = 0 := by rw [qh3 (by omega) (by omega) (by omega)]
 have q1 : qb9 x (g % 2) = qb9 d (g % 2) := by
  apply qfl
  rw [o4 _ (by omega), if_neg (by omega), if_neg (by omega), qqh hok hm hw (by omega)]
 have q2 : qb9 x ((g + 1) % 2) = (g + 1, (bytF D).length) := by
  unfold qb9
  rw [o4 _ (by omega), if_pos rfl, qxp hg hS]
  rw [if_pos rfl, Int.toNat_natCast]
 have hL : qaj x = (g + 1, (bytF D).length, 0) := qu3 o1 (by omega) (by omega) (qad6 (by rw [q1]; exact hl) q2)
 have hG : genB x (g + 1) (bytF D).length = bytF D := qv4 (qfx o1) (by omega) hb (fun j hj => by
  have hj' : j ≤ 15 := by rw [qcn] at hj; omega
  rw [o4 _ (by omega), if_neg (by omega), if_pos (by omega), show 2 + (g + 1) % 2 * 16 + j - (2 + (g + 1) % 2 * 16) = j by omega])
 have hR := qyl hc
 refine ⟨by rw [hL], by rw [hL], (fun p hp => by have hp : p ∈ x.2.1 := hp; rw [o3] at hp; cases hp), ?_, ?_, ?_⟩
 ·show qda (genB x (g + 1) (qaj x).2.1) (mny x) = 0
  rw [hL, hG, o2]; exact hR.1
 ·show qe6 (genB x (g + 1) (qaj x).2.1) (mny x) = D
  rw [hL, hG, o2]; exact hR.2
 ·show chkF D (mny x) = 0
  rw [o2]; exact hc
theorem qll {f : Fsd} {d : Dk} {D : List Fl} (h : okFs f) (hok : okD d = true) (hlen : d.1.length = f.1.1.length) (hb : ∀ k, k < 34 → blk d.1 k = blk f.1.1 k) (hw : ∀ p ∈ d.2.1, 34 ≤ p.1) (hD : chkF D (mny f.1) = 0) : okFs (d, f.2.1, D, f.2.2.2) := by
 obtain ⟨h1, h2, h3, h4⟩ := qao h
 obtain ⟨s1, s2⟩ := qib h
 have hm : mny d = mny f.1 := by unfold mny; rw [hlen]
 have hL : qaj d = qaj f.1 := by
  have e1 : qhu d = qhu f.1 := by unfold qhu; rw [qfl (hb 0 (by omega)), qfl (hb 1 (by omega))]
  unfold qaj
  rw [e1, hm, qez hok, qez h1]
 have hG : genB d f.2.1 (qaj f.1).2.1 = genB f.1 f.2.1 (qaj f.1).2.1 := qzp hlen (qfx h1) h2 s1 hb
 obtain ⟨c1, c2, c3, c4, c5, c6⟩ := h
 refine ⟨by show (qaj d).2.2 = 0; rw [hL]; exact c1, by show (qaj d).1 = _; rw [hL]; exact c2, hw, ?_, ?_, ?_⟩
 ·show qda (genB d f.2.1 (qaj d).2.1) (mny d) = 0
  rw [hL, hG, hm]; exact c4
 ·show qe6 (genB d f.2.1 (qaj d).2.1) (mny d) = f.2.2.2
  rw [hL, hG, hm]; exact c5
 ·show chkF D (mny d) = 0
  rw [hm]; exact hD
theorem qog {f : Fsd} (h : okFs f) : chkF f.2.2.2 (mny f.1) = 0 := by
 rw [← h.2.2.2.2.1]
 exact (qpo h.2.2.2.1).1
theorem qad7 : ofS (List.replicate 128 0) = (0, 0, 8) := by kernel_rfl
theorem qja {s : Stp} {f : Fsd} : endW (qah s (qas f)) = if fsE f ≠ 0 then (fz, fsE f) else if (s (qas f)).2 ≠ 0 then (fz, (s (qas f)).2) else ((s (qas f)).1.1, 0) := by
 by_cases h : fsE f = 0
 ·rw [qij (show (qas f).2.1 = 0 from h), if_neg (by rw [h]; decide)]
  rfl
 ·rw [qcd (show (qas f).2.1 ≠ 0 from h), if_pos h]
  unfold endW
  rw [if_pos (show (qas f).2.1 ≠ 0 from h)]
  rfl
theorem qafs (f : Fsd) (s : List UInt8) (i : Int) (b : List UInt8) : qcl f s i b = if fsE f ≠ 0 then (fz, fsE f) else if atE f s i ≠ 0 then (fz, atE f s i) else if (doD f.1 [(false, atN f s i, b)] 1).2 ≠ 0 then (fz, (doD f.1 [(false, atN f s i, b)] 1).2) else (((doD f.1 [(false, atN f s i, b)] 1).1, f.2), 0) := by
 unfold qcl
 rw [qja]
 by_cases h : fsE f ≠ 0
 ·rw [if_pos h, if_pos h]
 ·rw [if_neg h, if_neg h]
  by_cases h1 : atE f s i ≠ 0
  ·have e : putW s i b (qas f) = (qas f, atE f s i) := by unfold putW; rw [if_pos (show atE (qas f).1 s i ≠ 0 from h1)]; rfl
   rw [e, if_pos h1, if_pos h1]
  ·have e : putW s i b (qas f) = qdp (atN f s i) b (qas f) := by unfold putW; rw [if_neg (show ¬ atE (qas f).1 s i ≠ 0 from h1)]; rfl
   rw [e, if_neg h1]
   rfl
theorem qzr (f : Fsd) : qbi f = if fsE f ≠ 0 then (fz, fsE f) else if (doD f.1 [(true, 0, [])] 1).2 ≠ 0 then (fz, (doD f.1 [(true, 0, [])] 1).2) else (((doD f.1 [(true, 0, [])] 1).1, f.2), 0) := by
 unfold qbi
 rw [qja]
 rfl
theorem qoh (f : Fsd) : qe7 f = if fsE f ≠ 0 then (fz, fsE f) else ((((f.1.1, f.1.2.1, []) : Dk), f.2), 0) := by
 unfold qe7
 rw [qja]
 by_cases h : fsE f ≠ 0
 ·rw [if_pos h, if_pos h]
 ·rw [if_neg h, if_neg h]
  have h0 := qky (Decidable.not_not.1 h)
  have e : qe2 (qas f) = (qkx (qas f) (f.1.1, f.1.2.1, []), 0) := by
   unfold qe2 qex
   have : chk (qas f).1.1 = 0 := qez (qao h0).1
   rw [this]
   rfl
  rw [e]
  rfl
theorem qah2 {f : Fsd} {l : List Fl} {e : Int} (h : (qgm f l e).2 = 0) : fsE f = 0 ∧ e = 0 ∧ qgm f l e = ((f.1, f.2.1, l, f.2.2.2), 0) := by
 unfold qgm at *
 split at h
 ·rename_i h0; exact absurd h h0
 ·rename_i h0
  split at h
  ·rename_i h1; exact absurd h h1
  ·rename_i h1
   rw [if_neg h0, if_neg h1]
   exact ⟨Decidable.not_not.1 h0, Decidable.not_not.1 h1, rfl⟩
theorem qah3 {f : Fsd} {l : List Fl} (h : fsE f = 0) : qgm f l 0 = ((f.1, f.2.1, l, f.2.2.2), 0) := by
 unfold qgm
 rw [if_neg (by rw [h]; decide), if_neg (by decide)]
theorem qzs {f : Fsd} {l : List Fl} (h : okFs f) (hl : chkF l (mny f.1) = 0) : okFs (f.1, f.2.1, l, f.2.2.2) :=
 qll h (qao h).1 rfl (fun _ _ => rfl) h.2.2.1 hl
/-! ### the example -/
section
variable {x : List UInt8}
end
def qhx (f : Fsd) (s : List UInt8) : List UInt8 := if qa0 f s ≠ 0 then [] else (bloL f s).flatMap fun n => nowD f.1 n.toNat
theorem qfy {f : Fsd} (h : okFs f) : mayF f.2.2.1 (mny f.1) := (qbx h.2.2.2.2.2).2
theorem qzt {l m : List Ex} {b : Int} (h : extP m b) (hs : l.Sublist m) : chkX l = 0 := (qac2 hs h).1
theorem qlm {fs : List Fl} {g : Fl} (h : g ∈ fs) : g.2.Sublist (qaz fs) := by
 have h1 : [g].Sublist fs := List.singleton_sublist.2 h
 have := qac3 h1
 simpa [qaz] using this
theorem qdc {f : Fsd} (h : okFs f) {g : Fl} (hg : g ∈ f.2.2.1) : qbe f.2.2.1 g.1 = 0 ∧ getF f.2.2.1 g.1 = g.2 ∧ bloE f g.1 = 0 ∧ bloL f g.1 = qay g.2 ∧ qa0 f g.1 = 0 := by
 have hm := qfy h
 have h1 : isF f.2.2.1 g.1 = true := (qnz _ _).2 ⟨g.2, hg⟩
 have h2 : qdz g.1 = true := by
  have := hm.2.1.1 g hg
  unfold oneF at this
  simp only [Bool.and_eq_true] at this
  exact this.1.1
 have h3 := (qpl h.2.2.2.2.2 h2 h1).1
 have h4 : getF f.2.2.1 g.1 = g.2 := qs6 hm.2.1.2 hg
 have h5 : chkX g.2 = 0 := qzt hm.2.2.1 (qlm hg)
 have h6 : bloE f g.1 = 0 := by unfold bloE; rw [if_neg (by rw [h3]; decide), h4, h5]
 have h7 : bloL f g.1 = qay g.2 := by unfold bloL qfq; rw [if_neg (by rw [h3]; decide), h4, if_pos h5]
 refine ⟨h3, h4, h6, h7, ?_⟩
 unfold qa0
 rw [if_neg (by rw [qd2 h]; decide), h6]
theorem qad8 {f : Fsd} (h : okFs f) {g : Fl} (hg : g ∈ f.2.2.1) : g.1 ≠ [] := by
 have := (qfy h).2.1.1 g hg
 unfold oneF qdz at this
 simp only [Bool.and_eq_true, decide_eq_true_eq] at this
 intro e
 rw [e] at this
 simp at this
theorem qcp {f : Fsd} {s : List UInt8} (h : qa0 f s = 0) : okFs f ∧ ∃ l, (s, l) ∈ f.2.2.1 := by
 unfold qa0 at h
 by_cases h0 : fsE f = 0
 ·rw [if_neg (by rw [h0]; decide)] at h
  have hok := qky h0
  unfold bloE at h
  by_cases h1 : qbe f.2.2.1 s = 0
  ·exact ⟨hok, (qnz _ _).1 (qvj h1).2.2⟩
  ·rw [if_pos h1] at h; exact absurd h h1
 ·rw [if_pos h0] at h; exact absurd h h0
theorem qse {l : List Ex} {n : Int} (h : n ∈ qay l) : ∃ x ∈ l, x.1 ≤ n ∧ n < x.1 + x.2 := by
 obtain ⟨x, hx, hn⟩ := List.mem_flatMap.1 h
 refine ⟨x, hx, ?_⟩
 unfold blkX at hn
 obtain ⟨i, hi, rfl⟩ := List.mem_map.1 hn
 have := List.mem_range.1 hi
 omega
theorem qah4 {f : Fsd} (h : okFs f) {g : Fl} (hg : g ∈ f.2.2.1) : ∀ n ∈ qay g.2, 34 ≤ n ∧ n < mny f.1 := by
 intro n hn
 obtain ⟨x, hx, h1, h2⟩ := qse hn
 have := qea (qfy h).2.2.1 x ((qlm hg).subset hx)
 omega
theorem qcq {f : Fsd} {s : List UInt8} (h : qa0 f s = 0) : ∀ n ∈ bloL f s, 34 ≤ n ∧ n < mny f.1 := by
 obtain ⟨h0, l, hl⟩ := qcp h
 rw [(qdc h0 hl).2.2.2.1]
 exact qah4 h0 hl
theorem qln {f : Fsd} {s : List UInt8} (h : qa0 f s = 0) : okFs f ∧ bloE f s = 0 ∧ qjt f s = (bloL f s).length := by
 obtain ⟨h0, l, hl⟩ := qcp h
 refine ⟨h0, (qdc h0 hl).2.2.1, ?_⟩
 unfold qjt
 rw [if_neg (by rw [qd2 h0]; decide)]
theorem qqj {f : Fsd} {s : List UInt8} (h : qa0 f s = 0) {i : Nat} (hi : i < (bloL f s).length) : atE f s i = 0 ∧ atN f s i = (bloL f s)[i] ∧ getE f s i = 0 ∧ getL f s i = nowD f.1 ((bloL f s)[i]).toNat := by
 obtain ⟨h0, h1, _⟩ := qln h
 have hr := qcq h _ (List.getElem_mem hi)
 have a1 : atE f s i = 0 := by unfold atE; rw [if_neg (by rw [h1]; decide), if_neg (by omega)]
 have a2 : atN f s i = (bloL f s)[i] := by unfold atN; rw [if_neg (by rw [a1]; decide)]; simp [List.getD, List.getElem?_eq_getElem hi]
 have a3 : qf7 f.1 ((bloL f s)[i]) = (nowD f.1 ((bloL f s)[i]).toNat, 0) := by
  unfold qf7
  rw [if_neg (by rw [qez (qao h0).1]; decide), if_neg (by omega)]
 refine ⟨a1, a2, ?_, ?_⟩
 ·unfold getE; rw [if_neg (by rw [qd2 h0]; decide), if_neg (by rw [a1]; decide), a2, a3]
 ·unfold getL; rw [if_neg (by rw [qd2 h0]; decide), if_neg (by rw [a1]; decide), a2, a3]
theorem qsf {d : Dk} {n : Nat} (h : okD d = true) (hn : n < mny d) : (nowD d n).length = 128 := by
 unfold nowD
 have h1 := (qb4 d).1 h
 cases e : qbt (n : Int) d.2.1 with
 | some b =>
  have : ∀ (l : List Pu), (∀ p ∈ l, putE (mny d) p = 0) → ∀ b, qbt (n : Int) l = some b → b.length = 128 := by
   intro l
   induction l with
   | nil => intro _ b hb; cases hb
   | cons p l ih =>
    intro hp b hb
    unfold qbt at hb
    cases e2 : qbt (n : Int) l with
    | some b' => rw [e2] at hb; cases hb; exact ih (fun q hq => hp q (List.mem_cons_of_mem _ hq)) _ e2
    | none =>
     rw [e2] at hb
     simp only at hb
     split at hb
     ·cases hb; exact (qc9 (hp p (List.mem_cons_self ..))).2.2
     ·cases hb
  exact this _ h1.2.2.2.2.2.1 b e
 | none =>
  show (blk d.1 n).length = 128
  unfold blk
  rw [List.length_take, List.length_drop, qfx h]
  omega
theorem qlo {f g : Fsd} {s : List UInt8} (h1 : qa0 f s = 0) (h2 : qa0 g s = 0) (hl : bloL g s = bloL f s) (hb : ∀ n ∈ bloL f s, nowD g.1 n.toNat = nowD f.1 n.toNat) : qhx f s = qhx g s := by
 unfold qhx
 rw [if_neg (by rw [h1]; decide), if_neg (by rw [h2]; decide), hl]
 have : ∀ (l : List Int), (∀ n ∈ l, nowD g.1 n.toNat = nowD f.1 n.toNat) → (l.flatMap fun n => nowD f.1 n.toNat) = l.flatMap fun n => nowD g.1 n.toNat := by
  intro l
  induction l with
  | nil => intro _; rfl
  | cons a l ih => intro h; rw [List.flatMap_cons, List.flatMap_cons, h a (List.mem_cons_self ..), ih (fun n hn => h n (List.mem_cons_of_mem _ hn))]
 exact this _ hb
theorem qhy {f g : Fsd} (h : g.2.2.1 = f.2.2.1) (s : List UInt8) : bloL g s = bloL f s ∧ bloE g s = bloE f s := by
 unfold bloL bloE
 rw [h]
 exact ⟨rfl, rfl⟩
theorem qik {f g : Fsd} (h : g.2.2.1 = f.2.2.1) (hf : okFs f) (hg : okFs g) (s : List UInt8) : qa0 g s = qa0 f s := by
 unfold qa0
 rw [qd2 hf, qd2 hg, (qhy h s).2]
theorem OwFs.bx {w : World} {base : Nat} {v : Value} {f : Fsd} (h : OwFs w base v f) : ∃ x : FsV, v = x.val ∧ RdX w x f ∧ OwFs w base x.val f := by
 obtain ⟨x, e, hx⟩ := h.form
 exact ⟨x, e, hx, e ▸ h⟩
theorem FsV.ext_val {x y : FsV} (h : x.val = y.val) : x = y := by
 obtain ⟨a1, n1, c1, a2, n2, c2, a3, n3, c3, g, a4, n4, c4, a5, n5, c5⟩ := x
 obtain ⟨b1, m1, d1, b2, m2, d2, b3, m3, d3, g', b4, m4, d4, b5, m5, d5⟩ := y
 injection h with h
 have e0 := congrArg (fun z : Array Value => z[0]!) h
 have e1 := congrArg (fun z : Array Value => z[1]!) h
 have e2 := congrArg (fun z : Array Value => z[2]!) h
 have e3 := congrArg (fun z : Array Value => z[3]!) h
 have e4 := congrArg (fun z : Array Value => z[4]!) h
 have e5 := congrArg (fun z : Array Value => z[5]!) h
 simp at e0 e1 e2 e3 e4 e5
 obtain ⟨rfl, rfl, rfl⟩ := e0
 obtain ⟨rfl, rfl, rfl⟩ := e1
 obtain ⟨rfl, rfl, rfl⟩ := e2
 have e3 : g = g' := by omega
 subst e3
 obtain ⟨rfl, rfl, rfl⟩ := e4
 obtain ⟨rfl, rfl, rfl⟩ := e5
 rfl
theorem FsB.of {w : World} {q : Nat} {x : FsV} (h : FsAt w q x) : FsB w q := ⟨_, _, _, _, _, _, h⟩
theorem OwFs.assign {w w0 : World} {base q : Nat} {y : FsV} {f : Fsd} (h : OwFs w base y.val f) (hq : FsB w q) (hb : Below w0.heap.size w0 w) (hq0 : w0.heap.size ≤ q) :
  OwFs (set6 w q y) base y.val f ∧ Below w0.heap.size w0 (set6 w q y) ∧ FsAt (set6 w q y) q y ∧ RdX (set6 w q y) y f ∧ w.grownBy (set6 w q y) (some q) := by
 obtain ⟨h1, h2, h3⟩ := h.stored hq hb hq0
 refine ⟨h1, h2, h3, ?_, (hq.put y).2⟩
 obtain ⟨x', ex', hx'⟩ := h1.form
 have e : x' = y := FsV.ext_val ex'.symm
 subst e
 exact hx'
theorem qt0 {d : Dk} (h : okD d = true) : ∀ l : List Int, (∀ n ∈ l, 34 ≤ n ∧ n < mny d) → (l.flatMap fun n => nowD d n.toNat).length = 128 * l.length
 | [], _ => rfl
 | n :: l, hl => by
  have h1 := hl n (List.mem_cons_self ..)
  rw [List.flatMap_cons, List.length_append, qt0 h l (fun m hm => hl m (List.mem_cons_of_mem _ hm)), qsf h (by omega), List.length_cons]
  omega
def Like (f g : Fsd) (but : List UInt8) : Prop := ∀ x ∈ f.2.2.1, x.1 ≠ but → qa0 f x.1 = 0 ∧ qa0 g x.1 = 0 ∧ qhx f x.1 = qhx g x.1
end Go.Proofs.YtipokepnhjlgdaaGreat
