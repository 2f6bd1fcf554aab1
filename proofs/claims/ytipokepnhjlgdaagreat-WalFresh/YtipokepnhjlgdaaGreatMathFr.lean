/-
  Plain mathematics of frames: a record's blocks, the record that blocks begin with, the log of blocks.
-/
import Derived.Test.YtipokepnhjlgdaaGreatMathFs7
import Derived.Test.YtipokepnhjlgdaaGreatMathSl
namespace Go.Proofs.YtipokepnhjlgdaaGreat
open Go.RowKit
set_option linter.unusedVariables false
set_option linter.unusedSimpArgs false
theorem qafb {f g : Fsd} {but : List UInt8} (hf : okFs f) (hg : okFs g) (hd : g.1 = f.1) (hs : ∀ x ∈ f.2.2.1, x ∈ g.2.2.1) : Like f g but := by
 intro x hx _
 have h1 := qc7 hf hx
 have h2 := qc7 hg (hs x hx)
 refine ⟨h1.2.2.2.2, h2.2.2.2.2, qlr h1.2.2.2.2 h2.2.2.2.2 (by rw [h1.2.2.2.1, h2.2.2.2.1]) ?_⟩
 intro n _
 rw [hd]
theorem qafc {a b : Int} {l : List Ex} {n : Int} (ha : 0 ≤ a) (h : qd4 a b l n = 0) : qjw a b (qci a b l n) ∧ qbi (qci a b l n) = n ∧ qci a b l n ≠ [] ∧ ∀ k, inL (qci a b l n) k = true → inL l k = false := by
 obtain ⟨f1, f2, r, f3, f4⟩ := qj6 h
 obtain ⟨r1, r2, r3⟩ := qfh f1
 rcases qkv (qdc a b l) n f2 (fun x hx => (r1.1 x hx).2.1) with ⟨k1, _⟩ | ⟨p, x, q, c, k1, k2, k3, k4, k5⟩
 ·rw [k1] at f3; cases f3
 rw [k2] at f3
 cases f3
 rw [f4]
 refine ⟨qmo (q := q) (x := x) (y := (x.1, c)) (k1 ▸ r1) rfl k3 k4, ?_, by simp, ?_⟩
 ·unfold qbi at *
  rw [List.map_append, List.sum_append]
  simpa using k5
 ·intro k hk
  have hin : inL (qdc a b l) k = true := by
   rw [qnw] at hk ⊢
   obtain ⟨y, hy, h1, h2⟩ := hk
   rw [k1]
   rcases List.mem_append.1 hy with hy | hy
   ·exact ⟨y, List.mem_append_left _ hy, h1, h2⟩
   ·obtain rfl : y = (x.1, c) := by simpa using hy
    exact ⟨x, by simp, h1, by simp only at h2; omega⟩
  rw [r2] at hin
  simp only [Bool.and_eq_true, Bool.not_eq_true'] at hin
  exact hin.2
theorem qjd {f : Fsd} {s : List UInt8} {n : Int} (h : (qa4 f s n).2 = 0) : okFs f ∧ qa4 f s n = ((f.1, f.2.1, mkL f s n, f.2.2.2), 0) ∧ okFs (f.1, f.2.1, mkL f s n, f.2.2.2) ∧ qay (f.1, f.2.1, mkL f s n, f.2.2.2) s = 0 ∧ qjx (f.1, f.2.1, mkL f s n, f.2.2.2) s = n ∧ Like f (f.1, f.2.1, mkL f s n, f.2.2.2) [] ∧ qajf (f.1, f.2.1, mkL f s n, f.2.2.2) = 0 ∧ qr3 (f.1, f.2.1, mkL f s n, f.2.2.2) = qr3 f - n ∧ 1 ≤ n ∧ n ≤ 4096 ∧ 0 ≤ qr3 f ∧ qr3 f ≤ 4096 := by
 obtain ⟨h0, h1, h2⟩ := qaj7 h
 have hok := qk0 h0
 obtain ⟨m1, m2, m3, m4⟩ := mk_ok h1
 have hd := (qan hok).1
 have hmm := qhc hd
 have h34 := (qan hok).2.1
 have hm4 := ((qb3 f.1).1 hd).2.2.1
 obtain ⟨T, hT⟩ : ∃ T, T = qci 34 (qa6 f) (qa3 f) n := ⟨_, rfl⟩
 rw [← hT] at m3 m4
 have ht := qafc (by decide) m2
 rw [← hT, hmm] at ht
 rw [hmm] at m3
 have ha := qr2 m3
 have hA : okFs (f.1, f.2.1, insF f.2.2.1 (s, T), f.2.2.2) := qaar hok ha.2.1
 have hin : (s, T) ∈ insF f.2.2.1 (s, T) := ins_mem.2 (.inl rfl)
 have hfi := qc7 hA hin
 have hpos : ∀ x ∈ T, 0 ≤ x.2 := fun x hx => by have := ht.1.1 x hx; omega
 have hlen := qlt hpos
 rw [ht.2.1] at hlen
 rw [m4]
 refine ⟨hok, by unfold qa4; rw [h2, m4], hA, hfi.2.2.2.2, ?_, qafb hok hA rfl (fun x hx => ins_mem.2 (.inr hx)), ?_⟩
 ·have hs : qay (f.1, f.2.1, insF f.2.2.1 (s, T), f.2.2.2) s = 0 := hfi.2.2.2.2
  rw [(qlq hs).2.2]
  have hb : bloL (f.1, f.2.1, insF f.2.2.1 (s, T), f.2.2.2) s = qaw T := hfi.2.2.2.1
  rw [hb]; exact hlen
 ·obtain ⟨c1, c2⟩ := que hA
  obtain ⟨d1, d2⟩ := que hok
  have u1 := (qoo hA).2.1
  have u2 := (qoo hok).2.1
  have hap : apX T = true := by
   have hx := (qhb m3).2.2.2.2.1
   exact (qnv (qaas hx (List.sublist_append_right _ _))).2
  have hcT := qh8 (a := 34) (k := mny f.1 - 34) T (fun x hx => by have := ht.1.1 x hx; omega) hap
  rw [ht.2.1] at hcT
  have hor : ∀ k, inL (qa3 (f.1, f.2.1, insF f.2.2.1 (s, T), f.2.2.2)) k = (inL (qa3 f) k || inL T k) := by
   intro k
   rw [u1, u2]
   show inL (qaz (insF f.2.2.1 (s, T)) ++ qaz f.2.2.2) k = _
   rw [Bool.eq_iff_iff]
   simp only [Bool.or_eq_true, qnw, List.mem_append]
   have hp := qth f.2.2.1 (s, T)
   constructor
   ·rintro ⟨x, hx | hx, h1, h2⟩
    ·rcases List.mem_append.1 (hp.mem_iff.1 hx) with hx | hx
     ·exact .inl ⟨x, .inl hx, h1, h2⟩
     ·exact .inr ⟨x, hx, h1, h2⟩
    ·exact .inl ⟨x, .inr hx, h1, h2⟩
   ·rintro (⟨x, hx | hx, h1, h2⟩ | ⟨x, hx, h1, h2⟩)
    ·exact ⟨x, .inl (hp.mem_iff.2 (List.mem_append_left _ hx)), h1, h2⟩
    ·exact ⟨x, .inr hx, h1, h2⟩
    ·exact ⟨x, .inl (hp.mem_iff.2 (List.mem_append_right _ hx)), h1, h2⟩
  have e1 := qn3 (p := inL (qa3 f)) (q := inL T) 34 (mny f.1 - 34) (fun i _ hp => by
   cases e : inL T (34 + (i : Int)) with
   | false => rfl
   | true => rw [ht.2.2.2 _ e] at hp; cases hp)
  have e2 := qaaw (p := inL (qa3 f)) (a := 34) (mny f.1 - 34)
  have e3 := qaaw (p := fun k => inL (qa3 f) k || inL T k) (a := 34) (mny f.1 - 34)
  have e4 : qr3 (f.1, f.2.1, insF f.2.2.1 (s, T), f.2.2.2) = cntB (fun k => !(inL (qa3 f) k || inL T k)) 34 (mny f.1 - 34) := by
   rw [c2]
   exact qls _ (fun i _ => by rw [hor])
  have hw := (qj6 m2).2.1
  have hn : n ≤ 4096 := by
   by_cases hx : n < 1 ∨ 4096 < n
   ·rw [(qh5 (qj6 m2).1 hx).1] at m2; cases m2
   ·omega
  have b1 := qn0 (fun k => !inL (qa3 f) k) 34 (mny f.1 - 34)
  have b2 := qn0 (inL (qa3 f)) 34 (mny f.1 - 34)
  refine ⟨c1, ?_, hw, hn, ?_, ?_⟩
  ·rw [e4, d2]; omega
  ·rw [d2]; omega
  ·rw [d2]; omega
def qdm (d : Dk) : Fsd × Int :=
 if (qaj d).2.2 ≠ 0 then (fz, (qaj d).2.2)
 else if d.2.1.any (fun p => decide (p.1 < 34)) = true then (fz, 70)
 else if qc0 (genB d (qaj d).1 (qaj d).2.1) (mny d) ≠ 0 then (fz, 70)
 else (((d.1, d.2.1, []), (qaj d).1, qe6 (genB d (qaj d).1 (qaj d).2.1) (mny d), qe6 (genB d (qaj d).1 (qaj d).2.1) (mny d)), 0)
def qeq (f g : Fsd) (many : Int) (K : List Bool) : Dk × Int :=
 if fsE f ≠ 0 ∨ fsE g ≠ 0 ∨ f.1.2.2 ≠ [] then (dz, 8)
 else if (doD f.1 g.1.2.2 (g.1.2.2.length : Nat)).2 ≠ 0 ∨ ¬ ((doD f.1 g.1.2.2 (g.1.2.2.length : Nat)).1.1 = g.1.1 ∧ (doD f.1 g.1.2.2 (g.1.2.2.length : Nat)).1.2.1 = g.1.2.1) then (dz, 8)
 else if many < 0 ∨ (g.1.2.2.length : Int) < many then (dz, 2)
 else qfb (doD f.1 g.1.2.2 many).1 K
abbrev qma (d : Dk) (K : List Bool) : Dk := (qdk d.1 (kept d.2.1 K), [], [])
theorem qafd : ∀ p ∈ ([] : List Pu), 34 ≤ p.1 := by intro p hp; cases hp
theorem qakc {f : Fsd} (h : okFs f) : qdm f.1 = (((f.1.1, f.1.2.1, []), f.2.1, f.2.2.2, f.2.2.2), 0) := by
 have h3 := (qan h).2.2.2
 obtain ⟨c1, c2, c3, c4, c5, c6⟩ := h
 unfold qdm
 have hn : ¬ f.1.2.1.any (fun p => decide (p.1 < 34)) = true := by
  rw [List.any_eq_true]
  rintro ⟨p, hp, h4⟩
  have := c3 p hp
  simp at h4
  omega
 rw [if_neg (by rw [c1]; decide), if_neg hn, c2, if_neg (by rw [c4]; decide), c5]
theorem qafe {s : List UInt8} {g : Nat} {D K : List Fl} (h : okFs ((s, [], []), g, D, K)) : qdm (s, [], []) = (((s, [], []), g, K, K), 0) := by
 have h2 := qakc h
 dsimp only at h2
 exact h2
theorem quf {l : List Pu} {k : Int} (h : ∀ p ∈ l, p.1 ≠ k) : qbt k l = none := by
 induction l with
 | nil => rfl
 | cons p l ih =>
  unfold qbt
  rw [ih (fun q hq => h q (List.mem_cons_of_mem _ hq))]
  simp only
  rw [if_neg (h p (List.mem_cons_self ..))]
theorem put_in {d : Dk} (h : okD d = true) : ∀ p ∈ d.2.1, 0 ≤ p.1 ∧ 128 * p.1.toNat + 128 ≤ d.1.length ∧ p.2.length = 128 := fun p hp => by
 obtain ⟨hf, _, _⟩ := Fine.of_ok h
 have := qcz (hf.2.2.2 p hp)
 have := hf.1
 omega
theorem qaax {d : Dk} (K : List Bool) (h : okD d = true) (n : Nat) : blk (qdk d.1 (kept d.2.1 K)) n = (qbt n (kept d.2.1 K)).getD (blk d.1 n) :=
 qfc d.1 n _ d.1 rfl (fun p hp => put_in h p (qey _ _ _ hp))
theorem qaay {S : Int → Prop} {d : Dk} (K : List Bool) (h : okD d = true) (hw : ∀ p ∈ d.2.1, ¬ S p.1) {k : Nat} (hk : S k) : blk (qdk d.1 (kept d.2.1 K)) k = blk d.1 k := by
 rw [qaax K h, quf (fun p hp e => hw p (qey _ _ _ hp) (e ▸ hk))]
 rfl
def qmb (g : Nat) (n : Int) : Prop := (0 ≤ n ∧ n < 2) ∨ (((2 + g % 2 * 16 : Nat) : Int) ≤ n ∧ n < ((2 + g % 2 * 16 + 16 : Nat) : Int))
theorem qaaz {x d : Dk} {g sz : Nat} (hx : x.1.length = d.1.length) (hlen : d.1.length = 128 * mny d) (hm : 34 < mny d) (hs : sz ≤ 2048) (h : ∀ k : Nat, qmb g k → blk x.1 k = blk d.1 k) : genB x g sz = genB d g sz := by
 unfold genB
 apply List.ext_getElem?
 intro i
 rw [List.getElem?_take, List.getElem?_take]
 by_cases hi : i < sz
 ·rw [if_pos hi, if_pos hi, List.getElem?_drop, List.getElem?_drop]
  have e1 : 128 * (2 + g % 2 * 16) + i = 128 * (2 + g % 2 * 16 + i / 128) + i % 128 := by omega
  rw [e1, ← qln (by omega) (by omega), ← qln (by omega) (by omega), h _ (by unfold qmb; omega)]
 ·rw [if_neg hi, if_neg hi]
theorem qakd {f : Fsd} {d : Dk} (h : okFs f) (hok : okD d = true) (hlen : d.1.length = f.1.1.length) (hb : ∀ k : Nat, qmb f.2.1 k → blk d.1 k = blk f.1.1 k) (hw : ∀ p ∈ d.2.1, 34 ≤ p.1) : okFs (d, f.2.1, f.2.2.2, f.2.2.2) := by
 obtain ⟨h1, h2, h3, h4⟩ := qan h
 obtain ⟨s1, s2⟩ := qic h
 have hm : mny d = mny f.1 := by unfold mny; rw [hlen]
 have hL : qaj d = qaj f.1 := by
  have e1 : qhx d = qhx f.1 := by unfold qhx; rw [qfn (hb 0 (by unfold qmb; omega)), qfn (hb 1 (by unfold qmb; omega))]
  unfold qaj
  rw [e1, hm, qfe hok, qfe h1]
 have hG : genB d f.2.1 (qaj f.1).2.1 = genB f.1 f.2.1 (qaj f.1).2.1 := qaaz hlen (qfz h1) h2 s1 hb
 have hK := qol h
 obtain ⟨c1, c2, c3, c4, c5, c6⟩ := h
 refine ⟨by show (qaj d).2.2 = 0; rw [hL]; exact c1, by show (qaj d).1 = _; rw [hL]; exact c2, hw, ?_, ?_, ?_⟩
 ·show qc0 (genB d f.2.1 (qaj d).2.1) (mny d) = 0
  rw [hL, hG, hm]; exact c4
 ·show qe6 (genB d f.2.1 (qaj d).2.1) (mny d) = f.2.2.2
  rw [hL, hG, hm]; exact c5
 ·show chkF f.2.2.2 (mny d) = 0
  rw [hm]; exact hK
theorem qaa0 {f : Fsd} {y : Dk} (K : List Bool) (h : okFs f) (hok : okD y = true) (hm : mny y = mny f.1) (hb : ∀ k : Nat, qmb f.2.1 k → blk y.1 k = blk f.1.1 k) (hw : ∀ p ∈ y.2.1, ¬ qmb f.2.1 p.1) :
  okFs (qma y K, f.2.1, f.2.2.2, f.2.2.2) ∧ qdm (qma y K) = ((qma y K, f.2.1, f.2.2.2, f.2.2.2), 0) := by
 obtain ⟨c1, c2⟩ := qadl K hok
 have h1 : okFs (qma y K, f.2.1, f.2.2.2, f.2.2.2) := qakd h c1 (by rw [c2, qfz hok, hm, qfz (qan h).1]) (fun k hk => (qaay (S := qmb f.2.1) K hok hw hk).trans (hb k hk)) qafd
 exact ⟨h1, qafe h1⟩
theorem qaff {f : Fsd} (h : okFs f) : ∀ p ∈ f.1.2.1, ¬ qmb f.2.1 p.1 := fun p hp hs => by
 have := h.2.2.1 p hp
 unfold qmb at hs
 omega
theorem qaa4 {f : Fsd} (K : List Bool) (h : okFs f) : okFs (qma f.1 K, f.2.1, f.2.2.2, f.2.2.2) ∧ qdm (qma f.1 K) = ((qma f.1 K, f.2.1, f.2.2.2, f.2.2.2), 0) :=
 qaa0 K h (qan h).1 rfl (fun _ _ => rfl) (qaff h)
/-! ### a commit, wherever power fails in it -/
theorem qaa5 {d x : Dk} {l : List Ac} (h : qbb d l = some x) (j : Nat) : ∃ y, qbb d (l.take j) = some y ∧ qbb y (l.drop j) = some x := by
 rw [← List.take_append_drop j l, qb9] at h
 obtain ⟨y, h1, h2⟩ := Option.bind_eq_some_iff.1 h
 exact ⟨y, h1, h2⟩
abbrev Hd := Nat × Nat × Nat × Nat
def okH (h : Hd) : Prop := h.1 < 4294967296 ∧ h.2.1 < 4294967296 ∧ h.2.2.1 < 4294967296 ∧ h.2.2.2 < 4294967296
def le2 (n : Nat) : List UInt8 := [UInt8.ofNat (n % 256), UInt8.ofNat (n / 256 % 256)]
theorem qsq (n : Nat) : (le2 n).length = 2 := rfl
theorem qake (n : Nat) (h : n < 65536) : un4 (le2 n) = n := by
 simp only [un4, le2, UInt8.toNat_ofNat']
 omega
def hdB (h : Hd) : List UInt8 := le4 h.1 ++ (le4 h.2.1 ++ (le4 h.2.2.1 ++ le4 h.2.2.2))
theorem qds (h : Hd) : (hdB h).length = 16 := rfl
def padP (rest : List UInt8) : List UInt8 := rest.take 107 ++ List.replicate (107 - rest.length) 0
theorem qafg (rest : List UInt8) : (padP rest).length = 107 := by unfold padP; rw [List.length_append, List.length_take, List.length_replicate]; omega
def qdh (h : Hd) (i m : Nat) (rest : List UInt8) : List UInt8 := hdB h ++ (le2 i ++ (le2 m ++ (UInt8.ofNat (min rest.length 107) :: padP rest)))
theorem qaa6 (h : Hd) (i m : Nat) (rest : List UInt8) : (qdh h i m rest).length = 128 := by
 unfold qdh; simp only [List.length_append, List.length_cons, qds, qsq, qafg]
def qer (n : Nat) : Nat := max 1 ((n + 106) / 107)
def rowB (h : Hd) (r : List UInt8) : List (List UInt8) := (List.range (qer r.length)).map fun i => qdh h i (qer r.length) (r.drop (107 * i))
theorem qdi (h : Hd) (r : List UInt8) : (rowB h r).length = qer r.length := by simp [rowB]
theorem qe2 (h : Hd) (r : List UInt8) (i : Nat) (hi : i < (rowB h r).length) : (rowB h r)[i] = qdh h i (qer r.length) (r.drop (107 * i)) := by simp [rowB]
theorem qgw (n : Nat) : 1 ≤ qer n := by unfold qer; omega
theorem qil (n : Nat) (h : n ≤ 16384) : qer n ≤ 154 := by unfold qer; omega
def frmE (h : Hd) (r : List UInt8) : Int := if h.1 = 0 ∨ h.2.1 = 0 then 2 else if 16384 < r.length then 3 else 0
def frmL (h : Hd) (r : List UInt8) : List (List UInt8) := if frmE h r = 0 then rowB h r else []
theorem qaa7 {h : Hd} {r : List UInt8} (he : frmE h r = 0) : h.1 ≠ 0 ∧ h.2.1 ≠ 0 ∧ r.length ≤ 16384 := by
 unfold frmE at he
 split at he
 ·cases he
 ·split at he
  ·cases he
  ·rename_i a b; exact ⟨fun e => a (.inl e), fun e => a (.inr e), by omega⟩
theorem qakf {h : Hd} {r : List UInt8} (h1 : h.1 ≠ 0) (h2 : h.2.1 ≠ 0) (h3 : r.length ≤ 16384) : frmE h r = 0 := by
 unfold frmE; rw [if_neg (by rintro (e | e); exact h1 e; exact h2 e), if_neg (by omega)]
def genF (b : List UInt8) : Nat := un4 (b.take 4)
def numB (b : List UInt8) : Nat := un4 ((b.drop 4).take 4)
def qbv (b : List UInt8) : Nat := un4 ((b.drop 8).take 4)
def qea (b : List UInt8) : Nat := un4 ((b.drop 12).take 4)
def cntF (b : List UInt8) : Nat := un4 ((b.drop 18).take 2)
def sizB (b : List UInt8) : Nat := (b.getD 20 0).toNat
def qjz (b : List UInt8) : List UInt8 := (b.drop 21).take (min (sizB b) 107)
theorem qsr (l : List UInt8) : un4 (l.take 4) < 4294967296 := by
 have := qjn (l.take 4)
 have hle : 256 ^ (l.take 4).length ≤ 256 ^ 4 := Nat.pow_le_pow_right (by decide) (by rw [List.length_take]; omega)
 exact Nat.lt_of_lt_of_le this hle
theorem qlu (b : List UInt8) : genF b < 4294967296 := qsr _
theorem qop (b : List UInt8) : qbv b < 4294967296 := qsr _
theorem qafh (b : List UInt8) : qea b < 4294967296 := qsr _
theorem qakg (b : List UInt8) : cntF b < 65536 := by
 have := qjn ((b.drop 18).take 2)
 have hle : 256 ^ ((b.drop 18).take 2).length ≤ 256 ^ 2 := Nat.pow_le_pow_right (by decide) (by rw [List.length_take]; omega)
 exact Nat.lt_of_lt_of_le this hle
theorem qaa8 (h : Hd) (i m : Nat) (r : List UInt8) (hh : h.1 < 4294967296) : genF (qdh h i m r) = h.1 := by
 have e : (qdh h i m r).take 4 = le4 h.1 := by simp [qdh, hdB, le4]
 unfold genF; rw [e, qi1 _ hh]
theorem qfo (h : Hd) (i m : Nat) (r : List UInt8) (hh : h.2.2.1 < 4294967296) : qbv (qdh h i m r) = h.2.2.1 := by
 have e : ((qdh h i m r).drop 8).take 4 = le4 h.2.2.1 := by simp [qdh, hdB, le4]
 unfold qbv; rw [e, qi1 _ hh]
theorem qnb (h : Hd) (i m : Nat) (r : List UInt8) (hh : h.2.2.2 < 4294967296) : qea (qdh h i m r) = h.2.2.2 := by
 have e : ((qdh h i m r).drop 12).take 4 = le4 h.2.2.2 := by simp [qdh, hdB, le4]
 unfold qea; rw [e, qi1 _ hh]
theorem qqq (h : Hd) (i m : Nat) (r : List UInt8) (hm : m < 65536) : cntF (qdh h i m r) = m := by
 have e : ((qdh h i m r).drop 18).take 2 = le2 m := by simp [qdh, hdB, le4, le2]
 unfold cntF; rw [e, qake _ hm]
theorem qaa9 (h : Hd) (i m : Nat) (r : List UInt8) : sizB (qdh h i m r) = min r.length 107 := by
 have e : (qdh h i m r).getD 20 0 = UInt8.ofNat (min r.length 107) := by simp [qdh, hdB, le4, le2]
 unfold sizB; rw [e, UInt8.toNat_ofNat']; omega
theorem qw7 (h : Hd) (i m : Nat) (r : List UInt8) : qjz (qdh h i m r) = r.take 107 := by
 have e : (qdh h i m r).drop 21 = padP r := by simp [qdh, hdB, le4, le2]
 unfold qjz; rw [e, qaa9]
 unfold padP
 rw [Nat.min_eq_left (by omega : min r.length 107 ≤ 107), List.take_append_of_le_length (by rw [List.length_take]; omega), List.take_take]
 by_cases hl : r.length ≤ 107
 ·rw [List.take_of_length_le (by omega), List.take_of_length_le hl]
 ·congr 1; omega
def qf1 (l : List (List UInt8)) : List UInt8 := (l.map qjz).flatten
theorem qw8 (l : List (List UInt8)) (b : List UInt8) : qf1 (l ++ [b]) = qf1 l ++ qjz b := by simp [qf1]
theorem qnc (l : List (List UInt8)) (k : Nat) (h : k < l.length) : qf1 (l.take (k + 1)) = qf1 (l.take k) ++ qjz l[k] := by
 rw [List.take_succ_eq_append_getElem h, qw8]
theorem qqr (b : List UInt8) : (qjz b).length ≤ 107 := by unfold qjz; rw [List.length_take]; omega
theorem qqs : ∀ l : List (List UInt8), (qf1 l).length ≤ 107 * l.length
 | [] => by simp [qf1]
 | b :: l => by
  have := qqs l
  have hb := qqr b
  have e : qf1 (b :: l) = qjz b ++ qf1 l := rfl
  rw [e, List.length_append, List.length_cons]; omega
theorem qhp (h : Hd) (r : List UInt8) : ∀ k, k ≤ (rowB h r).length → qf1 ((rowB h r).take k) = r.take (107 * k)
 | 0, _ => by simp [qf1]
 | k + 1, hk => by
  rw [qnc _ k (by omega), qhp h r k (by omega), qe2, qw7]
  rw [show 107 * (k + 1) = 107 * k + 107 by omega, List.take_add]
theorem qaba (h : Hd) (r : List UInt8) : qf1 (rowB h r) = r := by
 have := qhp h r (rowB h r).length (Nat.le_refl _)
 rw [List.take_length] at this
 rw [this, List.take_of_length_le]
 rw [qdi]; unfold qer; omega
abbrev Op := List UInt8 × Nat × Nat
def recO (l : List (List UInt8)) : List UInt8 := qf1 (l.take (cntF (l.headD [])))
def hitO (g n p : Nat) (l : List (List UInt8)) : Bool :=
 decide (l ≠ [] ∧ cntF (l.headD []) ≤ l.length ∧ frmE (g, n, qbv (l.headD []), p) (recO l) = 0 ∧ rowB (g, n, qbv (l.headD []), p) (recO l) = l.take (cntF (l.headD [])))
def opn (g n p : Nat) (l : List (List UInt8)) : Op := if hitO g n p l then (recO l, qbv (l.headD []), cntF (l.headD [])) else ([], 0, 0)
theorem qf2 (g n p : Nat) (l : List (List UInt8)) : hitO g n p l = true ↔ l ≠ [] ∧ cntF (l.headD []) ≤ l.length ∧ frmE (g, n, qbv (l.headD []), p) (recO l) = 0 ∧ rowB (g, n, qbv (l.headD []), p) (recO l) = l.take (cntF (l.headD [])) := by
 simp [hitO]
theorem qh1 {g n p : Nat} {l : List (List UInt8)} (h : hitO g n p l = true) : opn g n p l = (recO l, qbv (l.headD []), cntF (l.headD [])) := by unfold opn; rw [if_pos h]
theorem qlv {g n p : Nat} {l : List (List UInt8)} (h : hitO g n p l = false) : opn g n p l = ([], 0, 0) := by unfold opn; rw [h]; rfl
theorem qabb {g n p : Nat} {l : List (List UInt8)} (h : hitO g n p l = true) : cntF (l.headD []) = qer (recO l).length ∧ 1 ≤ cntF (l.headD []) ∧ cntF (l.headD []) ≤ l.length := by
 obtain ⟨h1, h2, h3, h4⟩ := (qf2 g n p l).1 h
 have := congrArg List.length h4
 rw [qdi, List.length_take, Nat.min_eq_left h2] at this
 exact ⟨this.symm, by rw [← this]; exact qgw _, h2⟩
theorem qug (g n p : Nat) (l : List (List UInt8)) : (opn g n p l).2.2 = 0 ↔ hitO g n p l = false := by
 cases h : hitO g n p l
 ·rw [qlv h]; simp
 ·rw [qh1 h]; have := (qabb h).2.1
  constructor
  ·intro e; have e' : cntF (l.headD []) = 0 := e; omega
  ·intro e; cases e
theorem qhq (g n p : Nat) (l : List (List UInt8)) : (opn g n p l).2.2 ≤ l.length := by
 cases h : hitO g n p l
 ·rw [qlv h]; exact Nat.zero_le _
 ·rw [qh1 h]; exact (qabb h).2.2
theorem qim (g n p : Nat) (l : List (List UInt8)) : (opn g n p l).2.1 < 4294967296 := by
 cases h : hitO g n p l
 ·rw [qlv h]; show (0 : Nat) < _; omega
 ·rw [qh1 h]; exact qop _
theorem qabc (a l : List (List UInt8)) (h : 0 < a.length) : (a ++ l).headD [] = a[0] := by
 cases a with
 | nil => simp at h
 | cons x t => rfl
theorem qakh {g n p s : Nat} {r : List UInt8} (l : List (List UInt8)) (hs : s < 4294967296) (he : frmE (g, n, s, p) r = 0) : hitO g n p (rowB (g, n, s, p) r ++ l) = true ∧ recO (rowB (g, n, s, p) r ++ l) = r ∧ qbv ((rowB (g, n, s, p) r ++ l).headD []) = s ∧ cntF ((rowB (g, n, s, p) r ++ l).headD []) = qer r.length := by
 have hl := qdi (g, n, s, p) r
 have hp := qgw r.length
 have hle := qil r.length (qaa7 he).2.2
 have h0 : 0 < (rowB (g, n, s, p) r).length := by omega
 have hd : (rowB (g, n, s, p) r ++ l).headD [] = (rowB (g, n, s, p) r)[0] := qabc _ _ h0
 have e1 : qbv ((rowB (g, n, s, p) r ++ l).headD []) = s := by rw [hd, qe2]; exact qfo _ _ _ _ hs
 have e2 : cntF ((rowB (g, n, s, p) r ++ l).headD []) = qer r.length := by rw [hd, qe2]; exact qqq _ _ _ _ (by omega)
 have e3 : (rowB (g, n, s, p) r ++ l).take (qer r.length) = rowB (g, n, s, p) r := by rw [← hl, List.take_left]
 have e4 : recO (rowB (g, n, s, p) r ++ l) = r := by unfold recO; rw [e2, e3, qaba]
 refine ⟨?_, e4, e1, e2⟩
 rw [qf2, e1, e2, e4, e3]
 refine ⟨?_, ?_, he, rfl⟩
 ·intro e; have := congrArg List.length e; rw [List.length_append, List.length_nil] at this; omega
 ·rw [List.length_append]; omega
theorem qabd {g n p s : Nat} {r : List UInt8} (l : List (List UInt8)) (hs : s < 4294967296) (he : frmE (g, n, s, p) r = 0) : opn g n p (rowB (g, n, s, p) r ++ l) = (r, s, (rowB (g, n, s, p) r).length) := by
 obtain ⟨h1, h2, h3, h4⟩ := qakh l hs he
 rw [qh1 h1, h2, h3, h4, qdi]
theorem quh {g n p : Nat} {l : List (List UInt8)} (h : (opn g n p l).2.2 ≠ 0) : frmE (g, n, (opn g n p l).2.1, p) (opn g n p l).1 = 0 ∧ rowB (g, n, (opn g n p l).2.1, p) (opn g n p l).1 = l.take (opn g n p l).2.2 := by
 cases hh : hitO g n p l
 ·exact absurd ((qug g n p l).2 hh) h
 ·obtain ⟨h1, h2, h3, h4⟩ := (qf2 g n p l).1 hh
  rw [qh1 hh]
  exact ⟨h3, h4⟩
theorem qje {g n p : Nat} {l : List (List UInt8)} (hg : g < 4294967296) (hp : p < 4294967296) (h : (opn g n p l).2.2 ≠ 0) (j : Nat) (hj : j < (opn g n p l).2.2) (hjl : j < l.length) : genF l[j] = g ∧ qbv l[j] = (opn g n p l).2.1 ∧ qea l[j] = p := by
 obtain ⟨h1, h2⟩ := quh h
 have hlen := congrArg List.length h2
 rw [List.length_take, Nat.min_eq_left (qhq g n p l)] at hlen
 have hj' : j < (rowB (g, n, (opn g n p l).2.1, p) (opn g n p l).1).length := by omega
 have e : l[j] = (rowB (g, n, (opn g n p l).2.1, p) (opn g n p l).1)[j] := by
  simp only [h2, List.getElem_take]
 rw [e, qe2]
 exact ⟨qaa8 _ _ _ _ hg, qfo _ _ _ _ (qim g n p l), qnb _ _ _ _ hp⟩
theorem qui {g n p : Nat} {l m : List (List UInt8)} (h : (opn g n p l).2.2 ≠ 0) (hm : (opn g n p l).2.2 ≤ m.length) (he : m.take (opn g n p l).2.2 = l.take (opn g n p l).2.2) : opn g n p m = opn g n p l := by
 obtain ⟨h1, h2⟩ := quh h
 have e : m = rowB (g, n, (opn g n p l).2.1, p) (opn g n p l).1 ++ m.drop (opn g n p l).2.2 := by rw [h2, ← he, List.take_append_drop]
 have hlen : (rowB (g, n, (opn g n p l).2.1, p) (opn g n p l).1).length = (opn g n p l).2.2 := by rw [h2, List.length_take, Nat.min_eq_left (qhq g n p l)]
 rw [e, qabd _ (qim g n p l) h1, hlen]
end Go.Proofs.YtipokepnhjlgdaaGreat
