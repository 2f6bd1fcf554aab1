/-
  Files held against others, as the statements do.
-/
import Derived.Test.YtipokepnhjlgdaaGreatFsTop5
namespace Go.Proofs.YtipokepnhjlgdaaGreat
open Go.RowKit
set_option linter.unusedVariables false
set_option linter.unusedSimpArgs false
theorem qcm {d : Dk} {n : Nat} (h : okD d = true) (hn : n < mny d) : qf6 d n = nowD d n := qeg h hn
theorem qfz {d : Dk} (h : okD d = true) : d.1.length = 128 * mny d := (Fine.of_ok h).1.1
theorem qjq : ∀ (bl : List (List UInt8)) (n : Nat) (d x : Dk), okD d = true → (∀ a ∈ qd9 (n : Int) bl, actE (mny d) a = 0) → qbb d (qd9 (n : Int) bl) = some x → ∀ k, k < mny d → qf6 x k = if n ≤ k ∧ k < n + bl.length then bl.getD (k - n) [] else qf6 d k
 | [], n, d, x, h, ha, he, k, hk => by
  cases he
  rw [if_neg (by simp only [List.length_nil]; omega)]
 | b :: bl, n, d, x, h, ha, he, k, hk => by
  have h1 := ha (false, (n : Int), b) (List.mem_cons_self ..)
  have he : (match oneD d (false, (n : Int), b) with | none => none | some y => qbb y (qd9 ((n : Int) + 1) bl)) = some x := he
  cases ho : oneD d (false, (n : Int), b) with
  | none => rw [ho] at he; cases he
  | some y =>
   rw [ho] at he
   simp only at he
   obtain ⟨h2, h3, _⟩ := qdd h h1 ho
   have hb := qfq h h1 ho hk
   have ih := qjq bl (n + 1) y x h2 (fun a ha' => by rw [h3]; exact ha a (List.mem_cons_of_mem _ (by simpa using ha'))) (by simpa using he) k (by rw [h3]; exact hk)
   rw [ih, hb]
   simp only [List.length_cons]
   by_cases hkn : k = n
   ·subst hkn
    rw [if_neg (by omega), if_pos rfl, if_pos (by omega), Nat.sub_self]
    rfl
   ·rw [if_neg (show ¬ (k : Int) = (n : Int) by omega)]
    by_cases hr : n + 1 ≤ k ∧ k < n + 1 + bl.length
    ·rw [if_pos hr, if_pos (by omega), show k - n = (k - (n + 1)) + 1 by omega]
     rfl
    ·rw [if_neg hr, if_neg (by omega)]
theorem qjb {d x : Dk} {g : Nat} {l : List UInt8} (hok : okD d = true) (hm : 34 < mny d) (hg : g ≠ 0) (hl : l.length ≤ 2048) (h : qbb d (qeu g l) = some x) :
  okD x = true ∧ mny x = mny d ∧ x.2.1 = [] ∧ ∀ k, k < mny d → blk x.1 k = if k = g % 2 then (qat g (l.length : Nat)).1 else if 2 + g % 2 * 16 ≤ k ∧ k < 2 + g % 2 * 16 + (qbe l).length then (qbe l).getD (k - (2 + g % 2 * 16)) [] else qf6 d k := by
 obtain ⟨o1, o2⟩ := qlj hok (qae0 hm hg hl) h
 have e : qeu g l = [(true, 0, [])] ++ (qd9 ((2 + g % 2 * 16 : Nat) : Int) (qbe l) ++ ([(true, 0, [])] ++ ([(false, ((g % 2 : Nat) : Int), (qat g (l.length : Nat)).1)] ++ [(true, 0, [])]))) := rfl
 rw [e, qb9, qep] at h
 obtain ⟨x1, a1, h⟩ := Option.bind_eq_some_iff.1 h
 rw [qb9] at h
 obtain ⟨x2, a2, h⟩ := Option.bind_eq_some_iff.1 h
 rw [qb9, qep] at h
 obtain ⟨x3, a3, h⟩ := Option.bind_eq_some_iff.1 h
 rw [qb9, qep] at h
 obtain ⟨x4, a4, a5⟩ := Option.bind_eq_some_iff.1 h
 rw [qep] at a5
 obtain ⟨k1, m1, _⟩ := qdd hok (qby _) a1
 have hda : ∀ a ∈ qd9 ((2 + g % 2 * 16 : Nat) : Int) (qbe l), actE (mny x1) a = 0 := by rw [m1]; exact qkb hm hl
 obtain ⟨k2, m2⟩ := qlj k1 hda a2
 obtain ⟨k3, m3, _⟩ := qdd k2 (qby _) a3
 have hsa : actE (mny x3) (false, ((g % 2 : Nat) : Int), (qat g (l.length : Nat)).1) = 0 := qih (by omega) hg hl
 obtain ⟨k4, m4, _⟩ := qdd k3 hsa a4
 refine ⟨o1, o2, ?_, fun k hk => ?_⟩
 ·have := qff (n := 0) k4 (qby _) rfl a5 (by omega)
  exact this.2
 ·have b5 := qff (n := k) k4 (qby _) rfl a5 (by omega)
  have b4 := qfq (n := k) k3 hsa a4 (by omega)
  have b3 := (qff (n := k) k2 (qby _) rfl a3 (by omega)).1
  have b2 := qjq (qbe l) (2 + g % 2 * 16) x1 x2 k1 hda a2 k (by omega)
  have b1 := (qff (n := k) hok (qby _) rfl a1 hk).1
  have e5 : qf6 x k = blk x.1 k := by rw [qeg o1 (by omega), b5.2]; rfl
  rw [← e5, b5.1, b4, b3, b2, b1]
  by_cases hk2 : k = g % 2
  ·rw [if_pos (by omega), if_pos hk2]
  ·rw [if_neg (by omega), if_neg hk2]
theorem qln {data : List UInt8} {n j : Nat} (h : 128 * n + j < data.length) (hj : j < 128) : (blk data n)[j]? = data[128 * n + j]? := by
 unfold blk
 rw [List.getElem?_take]
 rw [if_pos hj, List.getElem?_drop]
theorem qw5 {x : Dk} {g : Nat} {l : List UInt8} (hlen : x.1.length = 128 * mny x) (hm : 34 < mny x) (hl : l.length ≤ 2048) (h : ∀ j, j < (qbe l).length → blk x.1 (2 + g % 2 * 16 + j) = (qbe l).getD j []) : genB x g l.length = l := by
 unfold genB
 apply List.ext_getElem?
 intro i
 rw [List.getElem?_take]
 by_cases hi : i < l.length
 ·rw [if_pos hi, List.getElem?_drop]
  have hj : i / 128 < (qbe l).length := by rw [qcl]; omega
  have hb := h (i / 128) hj
  have e1 : 128 * (2 + g % 2 * 16) + i = 128 * (2 + g % 2 * 16 + i / 128) + i % 128 := by omega
  rw [e1, ← qln (by omega) (by omega), hb]
  rw [List.getD, List.getElem?_eq_getElem hj, Option.getD_some, qm6]
  unfold padB
  rw [List.getElem?_append_left (by rw [List.length_take, List.length_drop]; omega), List.getElem?_take, if_pos (by omega), List.getElem?_drop]
  congr 1
  omega
 ·rw [if_neg hi, List.getElem?_eq_none (by omega)]
theorem qaao {x d : Dk} {g sz : Nat} (hx : x.1.length = d.1.length) (hlen : d.1.length = 128 * mny d) (hm : 34 < mny d) (hs : sz ≤ 2048) (h : ∀ k, k < 34 → blk x.1 k = blk d.1 k) : genB x g sz = genB d g sz := by
 unfold genB
 apply List.ext_getElem?
 intro i
 rw [List.getElem?_take, List.getElem?_take]
 by_cases hi : i < sz
 ·rw [if_pos hi, if_pos hi, List.getElem?_drop, List.getElem?_drop]
  have e1 : 128 * (2 + g % 2 * 16) + i = 128 * (2 + g % 2 * 16 + i / 128) + i % 128 := by omega
  rw [e1, ← qln (by omega) (by omega), ← qln (by omega) (by omega), h _ (by omega)]
 ·rw [if_neg hi, if_neg hi]
theorem qfn {x d : Dk} {n : Nat} (h : blk x.1 n = blk d.1 n) : qb7 x n = qb7 d n := by unfold qb7; rw [h]
theorem qae4 {d : Dk} {gen size : Nat} (h1 : (qb7 d (gen % 2)).1 ≤ gen) (h2 : qb7 d ((gen + 1) % 2) = (gen + 1, size)) : qhx d = (gen + 1, size) := by
 unfold qhx qf7
 rcases (by omega : gen % 2 = 0 ∧ (gen + 1) % 2 = 1 ∨ gen % 2 = 1 ∧ (gen + 1) % 2 = 0) with ⟨e1, e2⟩ | ⟨e1, e2⟩
 ·rw [e1] at h1
  rw [e2] at h2
  rw [h2]
  by_cases hg : 0 < (qb7 d 0).1
  ·rw [if_pos (show ((0, 0) : Nat × Nat).1 < (qb7 d 0).1 from hg), if_pos (show (qb7 d 0).1 < gen + 1 by omega)]
  ·rw [if_neg (show ¬ ((0, 0) : Nat × Nat).1 < (qb7 d 0).1 from hg), if_pos (show 0 < gen + 1 by omega)]
 ·rw [e1] at h1
  rw [e2] at h2
  rw [h2, if_pos (show ((0, 0) : Nat × Nat).1 < gen + 1 by show 0 < gen + 1; omega), if_neg (show ¬ gen + 1 < (qb7 d 1).1 by omega)]
theorem qaap {l : List Pu} (h : ∀ p ∈ l, 34 ≤ p.1) {k : Nat} (hk : k < 34) : qbt (k : Int) l = none := by
 induction l with
 | nil => rfl
 | cons p l ih =>
  unfold qbt
  rw [ih (fun q hq => h q (List.mem_cons_of_mem _ hq))]
  have := h p (List.mem_cons_self ..)
  simp only
  rw [if_neg (by omega)]
theorem qqm {d : Dk} (hok : okD d = true) (hm : 34 < mny d) (hw : ∀ p ∈ d.2.1, 34 ≤ p.1) {k : Nat} (hk : k < 34) : qf6 d k = blk d.1 k := by
 rw [qeg hok (by omega), qaap hw hk]; rfl
theorem qqn {d x : Dk} {g : Nat} {D : List Fl} (hok : okD d = true) (hm : 34 < mny d) (hw : ∀ p ∈ d.2.1, 34 ≤ p.1) (hc : chkF D (mny d) = 0) (hg : g + 1 < 4294967296) (hl : (qb7 d (g % 2)).1 ≤ g) (h : qbb d (qeu (g + 1) (bytF D)) = some x) : okFs (x, g + 1, D, D) := by
 have hb : (bytF D).length ≤ 2048 := (qbx hc).2.2.2.2
 obtain ⟨o1, o2, o3, o4⟩ := qjb hok hm (by omega) hb h
 have hS : (qat (g + 1) ((bytF D).length : Nat)).2 = 0 := by rw [qh4 (by omega) (by omega) (by omega)]
 have q1 : qb7 x (g % 2) = qb7 d (g % 2) := by
  apply qfn
  rw [o4 _ (by omega), if_neg (by omega), if_neg (by omega), qqm hok hm hw (by omega)]
 have q2 : qb7 x ((g + 1) % 2) = (g + 1, (bytF D).length) := by
  unfold qb7
  rw [o4 _ (by omega), if_pos rfl, qyo hg hS]
  rw [if_pos rfl, Int.toNat_natCast]
 have hL : qaj x = (g + 1, (bytF D).length, 0) := qv4 o1 (by omega) (by omega) (qae4 (by rw [q1]; exact hl) q2)
 have hG : genB x (g + 1) (bytF D).length = bytF D := qw5 (qfz o1) (by omega) hb (fun j hj => by
  have hj' : j ≤ 15 := by rw [qcl] at hj; omega
  rw [o4 _ (by omega), if_neg (by omega), if_pos (by omega), show 2 + (g + 1) % 2 * 16 + j - (2 + (g + 1) % 2 * 16) = j by omega])
 have hR := qzk hc
 refine ⟨by rw [hL], by rw [hL], (fun p hp => by have hp : p ∈ x.2.1 := hp; rw [o3] at hp; cases hp), ?_, ?_, ?_⟩
 ·show qc0 (genB x (g + 1) (qaj x).2.1) (mny x) = 0
  rw [hL, hG, o2]; exact hR.1
 ·show qe6 (genB x (g + 1) (qaj x).2.1) (mny x) = D
  rw [hL, hG, o2]; exact hR.2
 ·show chkF D (mny x) = 0
  rw [o2]; exact hc
theorem qlo {f : Fsd} {d : Dk} {D : List Fl} (h : okFs f) (hok : okD d = true) (hlen : d.1.length = f.1.1.length) (hb : ∀ k, k < 34 → blk d.1 k = blk f.1.1 k) (hw : ∀ p ∈ d.2.1, 34 ≤ p.1) (hD : chkF D (mny f.1) = 0) : okFs (d, f.2.1, D, f.2.2.2) := by
 obtain ⟨h1, h2, h3, h4⟩ := qan h
 obtain ⟨s1, s2⟩ := qic h
 have hm : mny d = mny f.1 := by unfold mny; rw [hlen]
 have hL : qaj d = qaj f.1 := by
  have e1 : qhx d = qhx f.1 := by unfold qhx; rw [qfn (hb 0 (by omega)), qfn (hb 1 (by omega))]
  unfold qaj
  rw [e1, hm, qfe hok, qfe h1]
 have hG : genB d f.2.1 (qaj f.1).2.1 = genB f.1 f.2.1 (qaj f.1).2.1 := qaao hlen (qfz h1) h2 s1 hb
 obtain ⟨c1, c2, c3, c4, c5, c6⟩ := h
 refine ⟨by show (qaj d).2.2 = 0; rw [hL]; exact c1, by show (qaj d).1 = _; rw [hL]; exact c2, hw, ?_, ?_, ?_⟩
 ·show qc0 (genB d f.2.1 (qaj d).2.1) (mny d) = 0
  rw [hL, hG, hm]; exact c4
 ·show qe6 (genB d f.2.1 (qaj d).2.1) (mny d) = f.2.2.2
  rw [hL, hG, hm]; exact c5
 ·show chkF D (mny d) = 0
  rw [hm]; exact hD
theorem qol {f : Fsd} (h : okFs f) : chkF f.2.2.2 (mny f.1) = 0 := by
 rw [← h.2.2.2.2.1]
 exact (qpu h.2.2.2.1).1
theorem qae5 : ofS (List.replicate 128 0) = (0, 0, 8) := by kernel_rfl
theorem qjc {s : Stp} {f : Fsd} : endW (qah s (qaq f)) = if fsE f ≠ 0 then (fz, fsE f) else if (s (qaq f)).2 ≠ 0 then (fz, (s (qaq f)).2) else ((s (qaq f)).1.1, 0) := by
 by_cases h : fsE f = 0
 ·rw [qik (show (qaq f).2.1 = 0 from h), if_neg (by rw [h]; decide)]
  rfl
 ·rw [qcb (show (qaq f).2.1 ≠ 0 from h), if_pos h]
  unfold endW
  rw [if_pos (show (qaq f).2.1 ≠ 0 from h)]
  rfl
theorem qahw (f : Fsd) (s : List UInt8) (i : Int) (b : List UInt8) : qcj f s i b = if fsE f ≠ 0 then (fz, fsE f) else if atE f s i ≠ 0 then (fz, atE f s i) else if (doD f.1 [(false, atN f s i, b)] 1).2 ≠ 0 then (fz, (doD f.1 [(false, atN f s i, b)] 1).2) else (((doD f.1 [(false, atN f s i, b)] 1).1, f.2), 0) := by
 unfold qcj
 rw [qjc]
 by_cases h : fsE f ≠ 0
 ·rw [if_pos h, if_pos h]
 ·rw [if_neg h, if_neg h]
  by_cases h1 : atE f s i ≠ 0
  ·have e : putW s i b (qaq f) = (qaq f, atE f s i) := by unfold putW; rw [if_pos (show atE (qaq f).1 s i ≠ 0 from h1)]; rfl
   rw [e, if_pos h1, if_pos h1]
  ·have e : putW s i b (qaq f) = qdl (atN f s i) b (qaq f) := by unfold putW; rw [if_neg (show ¬ atE (qaq f).1 s i ≠ 0 from h1)]; rfl
   rw [e, if_neg h1]
   rfl
theorem qaaq (f : Fsd) : qbh f = if fsE f ≠ 0 then (fz, fsE f) else if (doD f.1 [(true, 0, [])] 1).2 ≠ 0 then (fz, (doD f.1 [(true, 0, [])] 1).2) else (((doD f.1 [(true, 0, [])] 1).1, f.2), 0) := by
 unfold qbh
 rw [qjc]
 rfl
theorem qae6 (f : Fsd) : qcs f = if fsE f ≠ 0 then (fz, fsE f) else ((((f.1.1, f.1.2.1, []) : Dk), f.2), 0) := by
 unfold qcs
 rw [qjc]
 by_cases h : fsE f ≠ 0
 ·rw [if_pos h, if_pos h]
 ·rw [if_neg h, if_neg h]
  have h0 := qk0 (Decidable.not_not.1 h)
  have e : qe1 (qaq f) = (qkz (qaq f) (f.1.1, f.1.2.1, []), 0) := by
   unfold qe1 qex
   have : chk (qaq f).1.1 = 0 := qfe (qan h0).1
   rw [this]
   rfl
  rw [e]
  rfl
theorem qaj7 {f : Fsd} {l : List Fl} {e : Int} (h : (qgo f l e).2 = 0) : fsE f = 0 ∧ e = 0 ∧ qgo f l e = ((f.1, f.2.1, l, f.2.2.2), 0) := by
 unfold qgo at *
 split at h
 ·rename_i h0; exact absurd h h0
 ·rename_i h0
  split at h
  ·rename_i h1; exact absurd h h1
  ·rename_i h1
   rw [if_neg h0, if_neg h1]
   exact ⟨Decidable.not_not.1 h0, Decidable.not_not.1 h1, rfl⟩
theorem qaj8 {f : Fsd} {l : List Fl} (h : fsE f = 0) : qgo f l 0 = ((f.1, f.2.1, l, f.2.2.2), 0) := by
 unfold qgo
 rw [if_neg (by rw [h]; decide), if_neg (by decide)]
theorem qaar {f : Fsd} {l : List Fl} (h : okFs f) (hl : chkF l (mny f.1) = 0) : okFs (f.1, f.2.1, l, f.2.2.2) :=
 qlo h (qan h).1 rfl (fun _ _ => rfl) h.2.2.1 hl
/-! ### the example -/
section
variable {x : List UInt8}
end
def qh0 (f : Fsd) (s : List UInt8) : List UInt8 := if qay f s ≠ 0 then [] else (bloL f s).flatMap fun n => nowD f.1 n.toNat
theorem qf0 {f : Fsd} (h : okFs f) : mayF f.2.2.1 (mny f.1) := (qbx h.2.2.2.2.2).2
theorem qaas {l m : List Ex} {b : Int} (h : extP m b) (hs : l.Sublist m) : chkX l = 0 := (qad3 hs h).1
theorem qlp {fs : List Fl} {g : Fl} (h : g ∈ fs) : g.2.Sublist (qaz fs) := by
 have h1 : [g].Sublist fs := List.singleton_sublist.2 h
 have := qad4 h1
 simpa [qaz] using this
theorem qc7 {f : Fsd} (h : okFs f) {g : Fl} (hg : g ∈ f.2.2.1) : qbd f.2.2.1 g.1 = 0 ∧ getF f.2.2.1 g.1 = g.2 ∧ bloE f g.1 = 0 ∧ bloL f g.1 = qaw g.2 ∧ qay f g.1 = 0 := by
 have hm := qf0 h
 have h1 : isF f.2.2.1 g.1 = true := (qn6 _ _).2 ⟨g.2, hg⟩
 have h2 : qdy g.1 = true := by
  have := hm.2.1.1 g hg
  unfold oneF at this
  simp only [Bool.and_eq_true] at this
  exact this.1.1
 have h3 := (qpr h.2.2.2.2.2 h2 h1).1
 have h4 : getF f.2.2.1 g.1 = g.2 := qtg hm.2.1.2 hg
 have h5 : chkX g.2 = 0 := qaas hm.2.2.1 (qlp hg)
 have h6 : bloE f g.1 = 0 := by unfold bloE; rw [if_neg (by rw [h3]; decide), h4, h5]
 have h7 : bloL f g.1 = qaw g.2 := by unfold bloL qfs; rw [if_neg (by rw [h3]; decide), h4, if_pos h5]
 refine ⟨h3, h4, h6, h7, ?_⟩
 unfold qay
 rw [if_neg (by rw [qd2 h]; decide), h6]
theorem qae7 {f : Fsd} (h : okFs f) {g : Fl} (hg : g ∈ f.2.2.1) : g.1 ≠ [] := by
 have := (qf0 h).2.1.1 g hg
 unfold oneF qdy at this
 simp only [Bool.and_eq_true, decide_eq_true_eq] at this
 intro e
 rw [e] at this
 simp at this
theorem qcd {f : Fsd} {s : List UInt8} (h : qay f s = 0) : okFs f ∧ ∃ l, (s, l) ∈ f.2.2.1 := by
 unfold qay at h
 by_cases h0 : fsE f = 0
 ·rw [if_neg (by rw [h0]; decide)] at h
  have hok := qk0 h0
  unfold bloE at h
  by_cases h1 : qbd f.2.2.1 s = 0
  ·exact ⟨hok, (qn6 _ _).1 (qwk h1).2.2⟩
  ·rw [if_pos h1] at h; exact absurd h h1
 ·rw [if_pos h0] at h; exact absurd h h0
theorem qsl {l : List Ex} {n : Int} (h : n ∈ qaw l) : ∃ x ∈ l, x.1 ≤ n ∧ n < x.1 + x.2 := by
 obtain ⟨x, hx, hn⟩ := List.mem_flatMap.1 h
 refine ⟨x, hx, ?_⟩
 unfold blkX at hn
 obtain ⟨i, hi, rfl⟩ := List.mem_map.1 hn
 have := List.mem_range.1 hi
 omega
theorem qaj9 {f : Fsd} (h : okFs f) {g : Fl} (hg : g ∈ f.2.2.1) : ∀ n ∈ qaw g.2, 34 ≤ n ∧ n < mny f.1 := by
 intro n hn
 obtain ⟨x, hx, h1, h2⟩ := qsl hn
 have := qd8 (qf0 h).2.2.1 x ((qlp hg).subset hx)
 omega
theorem qcn {f : Fsd} {s : List UInt8} (h : qay f s = 0) : ∀ n ∈ bloL f s, 34 ≤ n ∧ n < mny f.1 := by
 obtain ⟨h0, l, hl⟩ := qcd h
 rw [(qc7 h0 hl).2.2.2.1]
 exact qaj9 h0 hl
theorem qlq {f : Fsd} {s : List UInt8} (h : qay f s = 0) : okFs f ∧ bloE f s = 0 ∧ qjx f s = (bloL f s).length := by
 obtain ⟨h0, l, hl⟩ := qcd h
 refine ⟨h0, (qc7 h0 hl).2.2.1, ?_⟩
 unfold qjx
 rw [if_neg (by rw [qd2 h0]; decide)]
theorem qqo {f : Fsd} {s : List UInt8} (h : qay f s = 0) {i : Nat} (hi : i < (bloL f s).length) : atE f s i = 0 ∧ atN f s i = (bloL f s)[i] ∧ getE f s i = 0 ∧ getL f s i = nowD f.1 ((bloL f s)[i]).toNat := by
 obtain ⟨h0, h1, _⟩ := qlq h
 have hr := qcn h _ (List.getElem_mem hi)
 have a1 : atE f s i = 0 := by unfold atE; rw [if_neg (by rw [h1]; decide), if_neg (by omega)]
 have a2 : atN f s i = (bloL f s)[i] := by unfold atN; rw [if_neg (by rw [a1]; decide)]; simp [List.getD, List.getElem?_eq_getElem hi]
 have a3 : qf9 f.1 ((bloL f s)[i]) = (nowD f.1 ((bloL f s)[i]).toNat, 0) := by
  unfold qf9
  rw [if_neg (by rw [qfe (qan h0).1]; decide), if_neg (by omega)]
 refine ⟨a1, a2, ?_, ?_⟩
 ·unfold getE; rw [if_neg (by rw [qd2 h0]; decide), if_neg (by rw [a1]; decide), a2, a3]
 ·unfold getL; rw [if_neg (by rw [qd2 h0]; decide), if_neg (by rw [a1]; decide), a2, a3]
theorem qsm {d : Dk} {n : Nat} (h : okD d = true) (hn : n < mny d) : (nowD d n).length = 128 := by
 unfold nowD
 have h1 := (qb3 d).1 h
 cases e : qbt (n : Int) d.2.1 with
 | some b =>
  have : ∀ (l : List Pu), (∀ p ∈ l, putE (mny d) p = 0) → ∀ b, qbt (n : Int) l = some b → b.length = 128 := by
   intro l
   induction l with
   | nil => intro _ b hb; cases hb
   | cons p l ih =>
    intro hp b hb
    unfold qbt at hb
    cases e2 : qbt (n : Int) l with
    | some b' => rw [e2] at hb; cases hb; exact ih (fun q hq => hp q (List.mem_cons_of_mem _ hq)) _ e2
    | none =>
     rw [e2] at hb
     simp only at hb
     split at hb
     ·cases hb; exact (qcz (hp p (List.mem_cons_self ..))).2.2
     ·cases hb
  exact this _ h1.2.2.2.2.2.1 b e
 | none =>
  show (blk d.1 n).length = 128
  unfold blk
  rw [List.length_take, List.length_drop, qfz h]
  omega
theorem qlr {f g : Fsd} {s : List UInt8} (h1 : qay f s = 0) (h2 : qay g s = 0) (hl : bloL g s = bloL f s) (hb : ∀ n ∈ bloL f s, nowD g.1 n.toNat = nowD f.1 n.toNat) : qh0 f s = qh0 g s := by
 unfold qh0
 rw [if_neg (by rw [h1]; decide), if_neg (by rw [h2]; decide), hl]
 have : ∀ (l : List Int), (∀ n ∈ l, nowD g.1 n.toNat = nowD f.1 n.toNat) → (l.flatMap fun n => nowD f.1 n.toNat) = l.flatMap fun n => nowD g.1 n.toNat := by
  intro l
  induction l with
  | nil => intro _; rfl
  | cons a l ih => intro h; rw [List.flatMap_cons, List.flatMap_cons, h a (List.mem_cons_self ..), ih (fun n hn => h n (List.mem_cons_of_mem _ hn))]
 exact this _ hb
theorem qgv {f g : Fsd} (h : g.2.2.1 = f.2.2.1) (s : List UInt8) : bloL g s = bloL f s ∧ bloE g s = bloE f s := by
 unfold bloL bloE
 rw [h]
 exact ⟨rfl, rfl⟩
theorem qhh {f g : Fsd} (h : g.2.2.1 = f.2.2.1) (hf : okFs f) (hg : okFs g) (s : List UInt8) : qay g s = qay f s := by
 unfold qay
 rw [qd2 hf, qd2 hg, (qgv h s).2]
theorem OwFs.bx {w : World} {base : Nat} {v : Value} {f : Fsd} (h : OwFs w base v f) : ∃ x : FsV, v = x.val ∧ RdX w x f ∧ OwFs w base x.val f := by
 obtain ⟨x, e, hx⟩ := h.form
 exact ⟨x, e, hx, e ▸ h⟩
theorem FsV.ext_val {x y : FsV} (h : x.val = y.val) : x = y := by
 obtain ⟨a1, n1, c1, a2, n2, c2, a3, n3, c3, g, a4, n4, c4, a5, n5, c5⟩ := x
 obtain ⟨b1, m1, d1, b2, m2, d2, b3, m3, d3, g', b4, m4, d4, b5, m5, d5⟩ := y
 injection h with h
 have e0 := congrArg (fun z : Array Value => z[0]!) h
 have e1 := congrArg (fun z : Array Value => z[1]!) h
 have e2 := congrArg (fun z : Array Value => z[2]!) h
 have e3 := congrArg (fun z : Array Value => z[3]!) h
 have e4 := congrArg (fun z : Array Value => z[4]!) h
 have e5 := congrArg (fun z : Array Value => z[5]!) h
 simp at e0 e1 e2 e3 e4 e5
 obtain ⟨rfl, rfl, rfl⟩ := e0
 obtain ⟨rfl, rfl, rfl⟩ := e1
 obtain ⟨rfl, rfl, rfl⟩ := e2
 have e3 : g = g' := by omega
 subst e3
 obtain ⟨rfl, rfl, rfl⟩ := e4
 obtain ⟨rfl, rfl, rfl⟩ := e5
 rfl
theorem FsB.of {w : World} {q : Nat} {x : FsV} (h : FsAt w q x) : FsB w q := ⟨_, _, _, _, _, _, h⟩
theorem OwFs.assign {w w0 : World} {base q : Nat} {y : FsV} {f : Fsd} (h : OwFs w base y.val f) (hq : FsB w q) (hb : Below w0.heap.size w0 w) (hq0 : w0.heap.size ≤ q) :
  OwFs (set6 w q y) base y.val f ∧ Below w0.heap.size w0 (set6 w q y) ∧ FsAt (set6 w q y) q y ∧ RdX (set6 w q y) y f ∧ w.grownBy (set6 w q y) (some q) := by
 obtain ⟨h1, h2, h3⟩ := h.stored hq hb hq0
 refine ⟨h1, h2, h3, ?_, (hq.put y).2⟩
 obtain ⟨x', ex', hx'⟩ := h1.form
 have e : x' = y := FsV.ext_val ex'.symm
 subst e
 exact hx'
theorem qub {d : Dk} (h : okD d = true) : ∀ l : List Int, (∀ n ∈ l, 34 ≤ n ∧ n < mny d) → (l.flatMap fun n => nowD d n.toNat).length = 128 * l.length
 | [], _ => rfl
 | n :: l, hl => by
  have h1 := hl n (List.mem_cons_self ..)
  rw [List.flatMap_cons, List.length_append, qub h l (fun m hm => hl m (List.mem_cons_of_mem _ hm)), qsm h (by omega), List.length_cons]
  omega
def Like (f g : Fsd) (but : List UInt8) : Prop := ∀ x ∈ f.2.2.1, x.1 ≠ but → qay f x.1 = 0 ∧ qay g x.1 = 0 ∧ qh0 f x.1 = qh0 g x.1
end Go.Proofs.YtipokepnhjlgdaaGreat
